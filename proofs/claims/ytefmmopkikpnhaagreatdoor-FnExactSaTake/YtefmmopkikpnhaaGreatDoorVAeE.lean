/- What is proved: the contracts of ChnD, one behind the other. The conditions stand at each theorem. -/
import Derived.Test.YtefmmopkikpnhaaGreatDoorVAeC
namespace Go.Proofs.YtefmmopkikpnhaaGreatDoor
open Go.RowKit Go.LatT Go.BlockM Go.PlainAid Go.OpnT Go.ApdG Go.BytM Go.AesM Go.RowQ Go.RegH
set_option linter.unusedVariables false
set_option linter.unusedSimpArgs false
set_option maxHeartbeats 4000000 in
set_option maxRecDepth 100000 in
theorem chg_no1 (s t u : ByteArray) (b c d : Nat) (w : World) (hs : s.size ≠ 16) (hs1 : s.size ≤ 1048576) (hb : w.cell? ⟨b, 0, none⟩ = some (.string s)) (hc : w.cell? ⟨c, 0, none⟩ = some (.string t)) (hd : w.cell? ⟨d, 0, none⟩ = some (.string u)) :
    Calls Tryz.prog 142 #[.pointer (some ⟨b, 0, none⟩), .pointer (some ⟨c, 0, none⟩), .pointer (some ⟨d, 0, none⟩)] w fun e w' => PanP w e w' := by
  have lb : b < w.heap.size := lt_of_cell hb
  have lc : c < w.heap.size := lt_of_cell hc
  have ld : d < w.heap.size := lt_of_cell hd
  go_enter Tryz.func142, Tryz.ntmps142
  go_wp2_with fail
  refine Code.wp_mono (Q := fun e a' w' => match e with | .panic c => (∃ u pv, c = [{ v := .iface u pv, recovered := false }]) ∧ Below w.heap.size w w' ∧ a'.defers = [] | _ => False) ?_ ?_
  · intro e a' w' h
    cases e <;> first | exact h.elim | skip
    obtain ⟨⟨u0, pv, rfl⟩, hB, hD⟩ := h
    have HB := hid_in hB
    clear hB
    go_wp2_with fail
    unfold bodyPost
    exact ⟨hD, ⟨_, _, rfl⟩, HB.out⟩
  · have H0 : Below w.heap.size w w.drew := (Below.refl _ _).drew
    refine wp_region_held_drew (S := fun w' => Below w.heap.size w w') (by kernel_rfl) H0 (fun _ => ?_)
    refine wpAnyH_take (i := 0) (oi := { dst := some 9, op := Op.load 9 (Operand.tmp 0), type := 9, pos := "l6_aes.go:225", after := #[], guard := none }) (v := .string s) rfl (by kernel_rfl) (by kernel_rfl) (by kernel_rfl) (fun _ _ _ h => h) (Or.inl ⟨by rfl, ?_⟩) H0 ?_
    · intro w' hw
      have hc1 := (hw.cell (p := ⟨b, 0, none⟩) lb).trans hb
      go_simp
    try simp only [Act.put, List.setIfInBounds_toArray, List.set_cons_zero, List.set_cons_succ]
    refine wpAnyH_take (i := 2) (oi := { dst := some 11, op := Op.load 9 (Operand.tmp 1), type := 9, pos := "l6_aes.go:225", after := #[], guard := none }) (v := .string t) rfl (by kernel_rfl) (by kernel_rfl) (by kernel_rfl) (fun _ _ _ h => h) (Or.inl ⟨by rfl, ?_⟩) H0 ?_
    · intro w' hw
      have hc1 := (hw.cell (p := ⟨c, 0, none⟩) lc).trans hc
      go_simp
    try simp only [Act.put, List.setIfInBounds_toArray, List.set_cons_zero, List.set_cons_succ]
    refine wpAnyH_take (i := 4) (oi := { dst := some 13, op := Op.load 9 (Operand.tmp 2), type := 9, pos := "l6_aes.go:225", after := #[], guard := none }) (v := .string u) rfl (by kernel_rfl) (by kernel_rfl) (by kernel_rfl) (fun _ _ _ h => h) (Or.inl ⟨by rfl, ?_⟩) H0 ?_
    · intro w' hw
      have hc1 := (hw.cell (p := ⟨d, 0, none⟩) ld).trans hd
      go_simp
    try simp only [Act.put, List.setIfInBounds_toArray, List.set_cons_zero, List.set_cons_succ]
    refine wpAnyH_ready (rs := [1, 6, 7]) (by kernel_rfl) (by simp) ?_
    refine AllReadyH.cons (o := { dst := some 10, op := Op.call { callee := Callee.value (Operand.func 97), args := #[Operand.tmp 9], argTypes := #[9] }, type := 116, pos := "l6_aes.go:225", after := #[{ on := 0, ground := Ground.data }], guard := none }) rfl (fun K' hK' => ?_) ?_
    · go_simp
      refine (cipherOf_no s _ hs hs1).mono ?_
      rintro e w323 ⟨⟨u0, pv, rfl⟩, HB324⟩
      first | exact ⟨⟨_, _, rfl⟩, H0.trans (HB324.mono H0.size)⟩ | exact ⟨⟨_, _, rfl⟩, H0.trans (HB324.mono H0.size), rfl⟩ | exact ⟨H0.trans (HB324.mono H0.size), rfl⟩ | exact H0.trans (HB324.mono H0.size)
    refine AllReadyH.cons (o := { dst := some 4, op := Op.alloc 116, type := 0, pos := "l6_aes.go:225", after := #[], guard := none }) rfl (fun K' hK' => ?_) ?_
    · go_simp
      have HB326 := H0.alloc H0.size (.cells #[.pointer none, .slice none 0 0] 116)
      have cBx325 := H0.size
      have Zx325 := CZ.new w.drew
      refine hK'.out _ _ HB326 (fun _ => ?_)
      clear hK' K'
      try simp only [Act.put, List.setIfInBounds_toArray, List.set_cons_zero, List.set_cons_succ]
      refine wpAnyH_ready (rs := [1, 7]) (by kernel_rfl) (by simp) ?_
      refine AllReadyH.cons (o := { dst := some 10, op := Op.call { callee := Callee.value (Operand.func 97), args := #[Operand.tmp 9], argTypes := #[9] }, type := 116, pos := "l6_aes.go:225", after := #[{ on := 0, ground := Ground.data }], guard := none }) rfl (fun K' hK' => ?_) ?_
      · go_simp
        refine (cipherOf_no s _ hs hs1).mono ?_
        rintro e w327 ⟨⟨u0, pv, rfl⟩, HB328⟩
        first | exact ⟨⟨_, _, rfl⟩, HB326.trans (HB328.mono HB326.size)⟩ | exact ⟨⟨_, _, rfl⟩, HB326.trans (HB328.mono HB326.size), rfl⟩ | exact ⟨HB326.trans (HB328.mono HB326.size), rfl⟩ | exact HB326.trans (HB328.mono HB326.size)
      refine AllReadyH.cons (o := { dst := some 5, op := Op.alloc 119, type := 0, pos := "l6_aes.go:225", after := #[], guard := none }) rfl (fun K' hK' => ?_) AllReadyH.nil
      go_simp
      have HB330 := HB326.alloc HB326.size (.cells #[.int .u8 0, .int .u8 0, .int .u8 0, .int .u8 0, .int .u8 0, .int .u8 0, .int .u8 0, .int .u8 0, .int .u8 0, .int .u8 0, .int .u8 0, .int .u8 0, .int .u8 0, .int .u8 0, .int .u8 0, .int .u8 0] 119)
      have aBx329 := HB326.size
      have Zx329 := Zx325.later (below_box _ (.cells #[.int .u8 0, .int .u8 0, .int .u8 0, .int .u8 0, .int .u8 0, .int .u8 0, .int .u8 0, .int .u8 0, .int .u8 0, .int .u8 0, .int .u8 0, .int .u8 0, .int .u8 0, .int .u8 0, .int .u8 0, .int .u8 0] 119))
      have Rx329 : RB ((w.drew.alloc (.cells #[.pointer none, .slice none 0 0] 116)).alloc (.cells #[.int .u8 0, .int .u8 0, .int .u8 0, .int .u8 0, .int .u8 0, .int .u8 0, .int .u8 0, .int .u8 0, .int .u8 0, .int .u8 0, .int .u8 0, .int .u8 0, .int .u8 0, .int .u8 0, .int .u8 0, .int .u8 0] 119)) (w.drew.alloc (.cells #[.pointer none, .slice none 0 0] 116)).heap.size 16 119 (fun _ => 0) := by
        rw [zeroG]; exact RB.new (w.drew.alloc (.cells #[.pointer none, .slice none 0 0] 116)) 16 _ _
      have qx329 : (w.drew.alloc (.cells #[.pointer none, .slice none 0 0] 116)).heap.size = (w.drew.heap.size + 1) := by simp
      rw [qx329] at Rx329 aBx329
      refine hK'.out _ _ HB330 (fun _ => ?_)
      clear hK' K'
      try simp only [Act.put, List.setIfInBounds_toArray, List.set_cons_zero, List.set_cons_succ]
      refine wpAnyH_ready (rs := [1]) (by kernel_rfl) (by simp) ?_
      refine AllReadyH.cons (o := { dst := some 10, op := Op.call { callee := Callee.value (Operand.func 97), args := #[Operand.tmp 9], argTypes := #[9] }, type := 116, pos := "l6_aes.go:225", after := #[{ on := 0, ground := Ground.data }], guard := none }) rfl (fun K' hK' => ?_) AllReadyH.nil
      go_simp
      refine (cipherOf_no s _ hs hs1).mono ?_
      rintro e w331 ⟨⟨u0, pv, rfl⟩, HB332⟩
      first | exact ⟨⟨_, _, rfl⟩, HB330.trans (HB332.mono HB330.size)⟩ | exact ⟨⟨_, _, rfl⟩, HB330.trans (HB332.mono HB330.size), rfl⟩ | exact ⟨HB330.trans (HB332.mono HB330.size), rfl⟩ | exact HB330.trans (HB332.mono HB330.size)
    refine AllReadyH.cons (o := { dst := some 5, op := Op.alloc 119, type := 0, pos := "l6_aes.go:225", after := #[], guard := none }) rfl (fun K' hK' => ?_) AllReadyH.nil
    go_simp
    have HB334 := H0.alloc H0.size (.cells #[.int .u8 0, .int .u8 0, .int .u8 0, .int .u8 0, .int .u8 0, .int .u8 0, .int .u8 0, .int .u8 0, .int .u8 0, .int .u8 0, .int .u8 0, .int .u8 0, .int .u8 0, .int .u8 0, .int .u8 0, .int .u8 0] 119)
    have aBx333 := H0.size
    have Rx333 : RB (w.drew.alloc (.cells #[.int .u8 0, .int .u8 0, .int .u8 0, .int .u8 0, .int .u8 0, .int .u8 0, .int .u8 0, .int .u8 0, .int .u8 0, .int .u8 0, .int .u8 0, .int .u8 0, .int .u8 0, .int .u8 0, .int .u8 0, .int .u8 0] 119)) w.drew.heap.size 16 119 (fun _ => 0) := by
      rw [zeroG]; exact RB.new w.drew 16 _ _
    refine hK'.out _ _ HB334 (fun _ => ?_)
    clear hK' K'
    try simp only [Act.put, List.setIfInBounds_toArray, List.set_cons_zero, List.set_cons_succ]
    refine wpAnyH_ready (rs := [1, 6]) (by kernel_rfl) (by simp) ?_
    refine AllReadyH.cons (o := { dst := some 10, op := Op.call { callee := Callee.value (Operand.func 97), args := #[Operand.tmp 9], argTypes := #[9] }, type := 116, pos := "l6_aes.go:225", after := #[{ on := 0, ground := Ground.data }], guard := none }) rfl (fun K' hK' => ?_) ?_
    · go_simp
      refine (cipherOf_no s _ hs hs1).mono ?_
      rintro e w335 ⟨⟨u0, pv, rfl⟩, HB336⟩
      first | exact ⟨⟨_, _, rfl⟩, HB334.trans (HB336.mono HB334.size)⟩ | exact ⟨⟨_, _, rfl⟩, HB334.trans (HB336.mono HB334.size), rfl⟩ | exact ⟨HB334.trans (HB336.mono HB334.size), rfl⟩ | exact HB334.trans (HB336.mono HB334.size)
    refine AllReadyH.cons (o := { dst := some 4, op := Op.alloc 116, type := 0, pos := "l6_aes.go:225", after := #[], guard := none }) rfl (fun K' hK' => ?_) AllReadyH.nil
    go_simp
    have HB338 := HB334.alloc HB334.size (.cells #[.pointer none, .slice none 0 0] 116)
    have cBx337 := HB334.size
    have Rx337 := RBlater Rx333 (below_box _ (.cells #[.pointer none, .slice none 0 0] 116))
    have qx337 : (w.drew.alloc (.cells #[.int .u8 0, .int .u8 0, .int .u8 0, .int .u8 0, .int .u8 0, .int .u8 0, .int .u8 0, .int .u8 0, .int .u8 0, .int .u8 0, .int .u8 0, .int .u8 0, .int .u8 0, .int .u8 0, .int .u8 0, .int .u8 0] 119)).heap.size = (w.drew.heap.size + 1) := by simp
    have Zx337 : CZ ((w.drew.alloc (.cells #[.int .u8 0, .int .u8 0, .int .u8 0, .int .u8 0, .int .u8 0, .int .u8 0, .int .u8 0, .int .u8 0, .int .u8 0, .int .u8 0, .int .u8 0, .int .u8 0, .int .u8 0, .int .u8 0, .int .u8 0, .int .u8 0] 119)).alloc (.cells #[.pointer none, .slice none 0 0] 116)) (w.drew.heap.size + 1) := by have := CZ.new (w.drew.alloc (.cells #[.int .u8 0, .int .u8 0, .int .u8 0, .int .u8 0, .int .u8 0, .int .u8 0, .int .u8 0, .int .u8 0, .int .u8 0, .int .u8 0, .int .u8 0, .int .u8 0, .int .u8 0, .int .u8 0, .int .u8 0, .int .u8 0] 119)); rw [qx337] at this; exact this
    rw [qx337] at cBx337
    refine hK'.out _ _ HB338 (fun _ => ?_)
    clear hK' K'
    try simp only [Act.put, List.setIfInBounds_toArray, List.set_cons_zero, List.set_cons_succ]
    refine wpAnyH_ready (rs := [1]) (by kernel_rfl) (by simp) ?_
    refine AllReadyH.cons (o := { dst := some 10, op := Op.call { callee := Callee.value (Operand.func 97), args := #[Operand.tmp 9], argTypes := #[9] }, type := 116, pos := "l6_aes.go:225", after := #[{ on := 0, ground := Ground.data }], guard := none }) rfl (fun K' hK' => ?_) AllReadyH.nil
    go_simp
    refine (cipherOf_no s _ hs hs1).mono ?_
    rintro e w339 ⟨⟨u0, pv, rfl⟩, HB340⟩
    first | exact ⟨⟨_, _, rfl⟩, HB338.trans (HB340.mono HB338.size)⟩ | exact ⟨⟨_, _, rfl⟩, HB338.trans (HB340.mono HB338.size), rfl⟩ | exact ⟨HB338.trans (HB340.mono HB338.size), rfl⟩ | exact HB338.trans (HB340.mono HB338.size)
set_option maxHeartbeats 4000000 in
set_option maxRecDepth 100000 in
theorem chg_no2 (s t u : ByteArray) (b c d : Nat) (w : World) (hs : s.size = 16) (ht : t.size ≠ 16) (ht1 : t.size ≤ 1048576) (hb : w.cell? ⟨b, 0, none⟩ = some (.string s)) (hc : w.cell? ⟨c, 0, none⟩ = some (.string t)) (hd : w.cell? ⟨d, 0, none⟩ = some (.string u)) :
    Calls Tryz.prog 142 #[.pointer (some ⟨b, 0, none⟩), .pointer (some ⟨c, 0, none⟩), .pointer (some ⟨d, 0, none⟩)] w fun e w' => PanP w e w' := by
  have lb : b < w.heap.size := lt_of_cell hb
  have lc : c < w.heap.size := lt_of_cell hc
  have ld : d < w.heap.size := lt_of_cell hd
  go_enter Tryz.func142, Tryz.ntmps142
  go_wp2_with fail
  refine Code.wp_mono (Q := fun e a' w' => match e with | .panic c => (∃ u pv, c = [{ v := .iface u pv, recovered := false }]) ∧ Below w.heap.size w w' ∧ a'.defers = [] | _ => False) ?_ ?_
  · intro e a' w' h
    cases e <;> first | exact h.elim | skip
    obtain ⟨⟨u0, pv, rfl⟩, hB, hD⟩ := h
    have HB := hid_in hB
    clear hB
    go_wp2_with fail
    unfold bodyPost
    exact ⟨hD, ⟨_, _, rfl⟩, HB.out⟩
  · have H0 : Below w.heap.size w w.drew := (Below.refl _ _).drew
    refine wp_region_held_drew (S := fun w' => Below w.heap.size w w') (by kernel_rfl) H0 (fun _ => ?_)
    refine wpAnyH_take (i := 0) (oi := { dst := some 9, op := Op.load 9 (Operand.tmp 0), type := 9, pos := "l6_aes.go:225", after := #[], guard := none }) (v := .string s) rfl (by kernel_rfl) (by kernel_rfl) (by kernel_rfl) (fun _ _ _ h => h) (Or.inl ⟨by rfl, ?_⟩) H0 ?_
    · intro w' hw
      have hc1 := (hw.cell (p := ⟨b, 0, none⟩) lb).trans hb
      go_simp
    try simp only [Act.put, List.setIfInBounds_toArray, List.set_cons_zero, List.set_cons_succ]
    refine wpAnyH_take (i := 2) (oi := { dst := some 11, op := Op.load 9 (Operand.tmp 1), type := 9, pos := "l6_aes.go:225", after := #[], guard := none }) (v := .string t) rfl (by kernel_rfl) (by kernel_rfl) (by kernel_rfl) (fun _ _ _ h => h) (Or.inl ⟨by rfl, ?_⟩) H0 ?_
    · intro w' hw
      have hc1 := (hw.cell (p := ⟨c, 0, none⟩) lc).trans hc
      go_simp
    try simp only [Act.put, List.setIfInBounds_toArray, List.set_cons_zero, List.set_cons_succ]
    refine wpAnyH_take (i := 4) (oi := { dst := some 13, op := Op.load 9 (Operand.tmp 2), type := 9, pos := "l6_aes.go:225", after := #[], guard := none }) (v := .string u) rfl (by kernel_rfl) (by kernel_rfl) (by kernel_rfl) (fun _ _ _ h => h) (Or.inl ⟨by rfl, ?_⟩) H0 ?_
    · intro w' hw
      have hc1 := (hw.cell (p := ⟨d, 0, none⟩) ld).trans hd
      go_simp
    try simp only [Act.put, List.setIfInBounds_toArray, List.set_cons_zero, List.set_cons_succ]
    refine wpAnyH_ready (rs := [1, 6, 7]) (by kernel_rfl) (by simp) ?_
    refine AllReadyH.cons (o := { dst := some 10, op := Op.call { callee := Callee.value (Operand.func 97), args := #[Operand.tmp 9], argTypes := #[9] }, type := 116, pos := "l6_aes.go:225", after := #[{ on := 0, ground := Ground.data }], guard := none }) rfl (fun K' hK' => ?_) ?_
    · go_simp
      refine (cipherOf_ok s _ hs).mono ?_
      rintro e w341 ⟨gt, gk, cap, rfl, Tw341, Kw341, HB342'⟩
      have HB342 := H0.trans (HB342'.mono H0.size)
      refine hK'.out _ _ HB342 (fun _ => ?_)
      clear hK' K'
      try simp only [Act.put, List.setIfInBounds_toArray, List.set_cons_zero, List.set_cons_succ]
      refine wpAnyH_ready (rs := [3, 6, 7]) (by kernel_rfl) (by simp) ?_
      refine AllReadyH.cons (o := { dst := some 12, op := Op.call { callee := Callee.value (Operand.func 98), args := #[Operand.tmp 11], argTypes := #[9] }, type := 119, pos := "l6_aes.go:225", after := #[{ on := 2, ground := Ground.data }, { on := 1, ground := Ground.chain }], guard := none }) rfl (fun K' hK' => ?_) ?_
      · go_simp
        refine (gridOf_no t _ ht ht1).mono ?_
        rintro e w343 ⟨⟨u0, pv, rfl⟩, HB344⟩
        first | exact ⟨⟨_, _, rfl⟩, HB342.trans (HB344.mono HB342.size)⟩ | exact ⟨⟨_, _, rfl⟩, HB342.trans (HB344.mono HB342.size), rfl⟩ | exact ⟨HB342.trans (HB344.mono HB342.size), rfl⟩ | exact HB342.trans (HB344.mono HB342.size)
      refine AllReadyH.cons (o := { dst := some 4, op := Op.alloc 116, type := 0, pos := "l6_aes.go:225", after := #[], guard := none }) rfl (fun K' hK' => ?_) ?_
      · go_simp
        have HB346 := HB342.alloc HB342.size (.cells #[.pointer none, .slice none 0 0] 116)
        have cBx345 := HB342.size
        have Tx345 := RBlater Tw341 (below_box _ (.cells #[.pointer none, .slice none 0 0] 116))
        have Kx345 := Kw341.later (below_box _ (.cells #[.pointer none, .slice none 0 0] 116))
        have Zx345 := CZ.new w341
        refine hK'.out _ _ HB346 (fun _ => ?_)
        clear hK' K'
        try simp only [Act.put, List.setIfInBounds_toArray, List.set_cons_zero, List.set_cons_succ]
        refine wpAnyH_ready (rs := [3, 7]) (by kernel_rfl) (by simp) ?_
        refine AllReadyH.cons (o := { dst := some 12, op := Op.call { callee := Callee.value (Operand.func 98), args := #[Operand.tmp 11], argTypes := #[9] }, type := 119, pos := "l6_aes.go:225", after := #[{ on := 2, ground := Ground.data }, { on := 1, ground := Ground.chain }], guard := none }) rfl (fun K' hK' => ?_) ?_
        · go_simp
          refine (gridOf_no t _ ht ht1).mono ?_
          rintro e w347 ⟨⟨u0, pv, rfl⟩, HB348⟩
          first | exact ⟨⟨_, _, rfl⟩, HB346.trans (HB348.mono HB346.size)⟩ | exact ⟨⟨_, _, rfl⟩, HB346.trans (HB348.mono HB346.size), rfl⟩ | exact ⟨HB346.trans (HB348.mono HB346.size), rfl⟩ | exact HB346.trans (HB348.mono HB346.size)
        refine AllReadyH.cons (o := { dst := some 5, op := Op.alloc 119, type := 0, pos := "l6_aes.go:225", after := #[], guard := none }) rfl (fun K' hK' => ?_) AllReadyH.nil
        go_simp
        have HB350 := HB346.alloc HB346.size (.cells #[.int .u8 0, .int .u8 0, .int .u8 0, .int .u8 0, .int .u8 0, .int .u8 0, .int .u8 0, .int .u8 0, .int .u8 0, .int .u8 0, .int .u8 0, .int .u8 0, .int .u8 0, .int .u8 0, .int .u8 0, .int .u8 0] 119)
        have aBx349 := HB346.size
        have Tx349 := RBlater Tx345 (below_box _ (.cells #[.int .u8 0, .int .u8 0, .int .u8 0, .int .u8 0, .int .u8 0, .int .u8 0, .int .u8 0, .int .u8 0, .int .u8 0, .int .u8 0, .int .u8 0, .int .u8 0, .int .u8 0, .int .u8 0, .int .u8 0, .int .u8 0] 119))
        have Kx349 := Kx345.later (below_box _ (.cells #[.int .u8 0, .int .u8 0, .int .u8 0, .int .u8 0, .int .u8 0, .int .u8 0, .int .u8 0, .int .u8 0, .int .u8 0, .int .u8 0, .int .u8 0, .int .u8 0, .int .u8 0, .int .u8 0, .int .u8 0, .int .u8 0] 119))
        have Zx349 := Zx345.later (below_box _ (.cells #[.int .u8 0, .int .u8 0, .int .u8 0, .int .u8 0, .int .u8 0, .int .u8 0, .int .u8 0, .int .u8 0, .int .u8 0, .int .u8 0, .int .u8 0, .int .u8 0, .int .u8 0, .int .u8 0, .int .u8 0, .int .u8 0] 119))
        have Rx349 : RB ((w341.alloc (.cells #[.pointer none, .slice none 0 0] 116)).alloc (.cells #[.int .u8 0, .int .u8 0, .int .u8 0, .int .u8 0, .int .u8 0, .int .u8 0, .int .u8 0, .int .u8 0, .int .u8 0, .int .u8 0, .int .u8 0, .int .u8 0, .int .u8 0, .int .u8 0, .int .u8 0, .int .u8 0] 119)) (w341.alloc (.cells #[.pointer none, .slice none 0 0] 116)).heap.size 16 119 (fun _ => 0) := by
          rw [zeroG]; exact RB.new (w341.alloc (.cells #[.pointer none, .slice none 0 0] 116)) 16 _ _
        have qx349 : (w341.alloc (.cells #[.pointer none, .slice none 0 0] 116)).heap.size = (w341.heap.size + 1) := by simp
        rw [qx349] at Rx349 aBx349
        refine hK'.out _ _ HB350 (fun _ => ?_)
        clear hK' K'
        try simp only [Act.put, List.setIfInBounds_toArray, List.set_cons_zero, List.set_cons_succ]
        refine wpAnyH_ready (rs := [3]) (by kernel_rfl) (by simp) ?_
        refine AllReadyH.cons (o := { dst := some 12, op := Op.call { callee := Callee.value (Operand.func 98), args := #[Operand.tmp 11], argTypes := #[9] }, type := 119, pos := "l6_aes.go:225", after := #[{ on := 2, ground := Ground.data }, { on := 1, ground := Ground.chain }], guard := none }) rfl (fun K' hK' => ?_) AllReadyH.nil
        go_simp
        refine (gridOf_no t _ ht ht1).mono ?_
        rintro e w351 ⟨⟨u0, pv, rfl⟩, HB352⟩
        first | exact ⟨⟨_, _, rfl⟩, HB350.trans (HB352.mono HB350.size)⟩ | exact ⟨⟨_, _, rfl⟩, HB350.trans (HB352.mono HB350.size), rfl⟩ | exact ⟨HB350.trans (HB352.mono HB350.size), rfl⟩ | exact HB350.trans (HB352.mono HB350.size)
      refine AllReadyH.cons (o := { dst := some 5, op := Op.alloc 119, type := 0, pos := "l6_aes.go:225", after := #[], guard := none }) rfl (fun K' hK' => ?_) AllReadyH.nil
      go_simp
      have HB354 := HB342.alloc HB342.size (.cells #[.int .u8 0, .int .u8 0, .int .u8 0, .int .u8 0, .int .u8 0, .int .u8 0, .int .u8 0, .int .u8 0, .int .u8 0, .int .u8 0, .int .u8 0, .int .u8 0, .int .u8 0, .int .u8 0, .int .u8 0, .int .u8 0] 119)
      have aBx353 := HB342.size
      have Tx353 := RBlater Tw341 (below_box _ (.cells #[.int .u8 0, .int .u8 0, .int .u8 0, .int .u8 0, .int .u8 0, .int .u8 0, .int .u8 0, .int .u8 0, .int .u8 0, .int .u8 0, .int .u8 0, .int .u8 0, .int .u8 0, .int .u8 0, .int .u8 0, .int .u8 0] 119))
      have Kx353 := Kw341.later (below_box _ (.cells #[.int .u8 0, .int .u8 0, .int .u8 0, .int .u8 0, .int .u8 0, .int .u8 0, .int .u8 0, .int .u8 0, .int .u8 0, .int .u8 0, .int .u8 0, .int .u8 0, .int .u8 0, .int .u8 0, .int .u8 0, .int .u8 0] 119))
      have Rx353 : RB (w341.alloc (.cells #[.int .u8 0, .int .u8 0, .int .u8 0, .int .u8 0, .int .u8 0, .int .u8 0, .int .u8 0, .int .u8 0, .int .u8 0, .int .u8 0, .int .u8 0, .int .u8 0, .int .u8 0, .int .u8 0, .int .u8 0, .int .u8 0] 119)) w341.heap.size 16 119 (fun _ => 0) := by
        rw [zeroG]; exact RB.new w341 16 _ _
      refine hK'.out _ _ HB354 (fun _ => ?_)
      clear hK' K'
      try simp only [Act.put, List.setIfInBounds_toArray, List.set_cons_zero, List.set_cons_succ]
      refine wpAnyH_ready (rs := [3, 6]) (by kernel_rfl) (by simp) ?_
      refine AllReadyH.cons (o := { dst := some 12, op := Op.call { callee := Callee.value (Operand.func 98), args := #[Operand.tmp 11], argTypes := #[9] }, type := 119, pos := "l6_aes.go:225", after := #[{ on := 2, ground := Ground.data }, { on := 1, ground := Ground.chain }], guard := none }) rfl (fun K' hK' => ?_) ?_
      · go_simp
        refine (gridOf_no t _ ht ht1).mono ?_
        rintro e w355 ⟨⟨u0, pv, rfl⟩, HB356⟩
        first | exact ⟨⟨_, _, rfl⟩, HB354.trans (HB356.mono HB354.size)⟩ | exact ⟨⟨_, _, rfl⟩, HB354.trans (HB356.mono HB354.size), rfl⟩ | exact ⟨HB354.trans (HB356.mono HB354.size), rfl⟩ | exact HB354.trans (HB356.mono HB354.size)
      refine AllReadyH.cons (o := { dst := some 4, op := Op.alloc 116, type := 0, pos := "l6_aes.go:225", after := #[], guard := none }) rfl (fun K' hK' => ?_) AllReadyH.nil
      go_simp
      have HB358 := HB354.alloc HB354.size (.cells #[.pointer none, .slice none 0 0] 116)
      have cBx357 := HB354.size
      have Tx357 := RBlater Tx353 (below_box _ (.cells #[.pointer none, .slice none 0 0] 116))
      have Kx357 := Kx353.later (below_box _ (.cells #[.pointer none, .slice none 0 0] 116))
      have Rx357 := RBlater Rx353 (below_box _ (.cells #[.pointer none, .slice none 0 0] 116))
      have qx357 : (w341.alloc (.cells #[.int .u8 0, .int .u8 0, .int .u8 0, .int .u8 0, .int .u8 0, .int .u8 0, .int .u8 0, .int .u8 0, .int .u8 0, .int .u8 0, .int .u8 0, .int .u8 0, .int .u8 0, .int .u8 0, .int .u8 0, .int .u8 0] 119)).heap.size = (w341.heap.size + 1) := by simp
      have Zx357 : CZ ((w341.alloc (.cells #[.int .u8 0, .int .u8 0, .int .u8 0, .int .u8 0, .int .u8 0, .int .u8 0, .int .u8 0, .int .u8 0, .int .u8 0, .int .u8 0, .int .u8 0, .int .u8 0, .int .u8 0, .int .u8 0, .int .u8 0, .int .u8 0] 119)).alloc (.cells #[.pointer none, .slice none 0 0] 116)) (w341.heap.size + 1) := by have := CZ.new (w341.alloc (.cells #[.int .u8 0, .int .u8 0, .int .u8 0, .int .u8 0, .int .u8 0, .int .u8 0, .int .u8 0, .int .u8 0, .int .u8 0, .int .u8 0, .int .u8 0, .int .u8 0, .int .u8 0, .int .u8 0, .int .u8 0, .int .u8 0] 119)); rw [qx357] at this; exact this
      rw [qx357] at cBx357
      refine hK'.out _ _ HB358 (fun _ => ?_)
      clear hK' K'
      try simp only [Act.put, List.setIfInBounds_toArray, List.set_cons_zero, List.set_cons_succ]
      refine wpAnyH_ready (rs := [3]) (by kernel_rfl) (by simp) ?_
      refine AllReadyH.cons (o := { dst := some 12, op := Op.call { callee := Callee.value (Operand.func 98), args := #[Operand.tmp 11], argTypes := #[9] }, type := 119, pos := "l6_aes.go:225", after := #[{ on := 2, ground := Ground.data }, { on := 1, ground := Ground.chain }], guard := none }) rfl (fun K' hK' => ?_) AllReadyH.nil
      go_simp
      refine (gridOf_no t _ ht ht1).mono ?_
      rintro e w359 ⟨⟨u0, pv, rfl⟩, HB360⟩
      first | exact ⟨⟨_, _, rfl⟩, HB358.trans (HB360.mono HB358.size)⟩ | exact ⟨⟨_, _, rfl⟩, HB358.trans (HB360.mono HB358.size), rfl⟩ | exact ⟨HB358.trans (HB360.mono HB358.size), rfl⟩ | exact HB358.trans (HB360.mono HB358.size)
    refine AllReadyH.cons (o := { dst := some 4, op := Op.alloc 116, type := 0, pos := "l6_aes.go:225", after := #[], guard := none }) rfl (fun K' hK' => ?_) ?_
    · go_simp
      have HB362 := H0.alloc H0.size (.cells #[.pointer none, .slice none 0 0] 116)
      have cBx361 := H0.size
      have Zx361 := CZ.new w.drew
      refine hK'.out _ _ HB362 (fun _ => ?_)
      clear hK' K'
      try simp only [Act.put, List.setIfInBounds_toArray, List.set_cons_zero, List.set_cons_succ]
      refine wpAnyH_ready (rs := [1, 7]) (by kernel_rfl) (by simp) ?_
      refine AllReadyH.cons (o := { dst := some 10, op := Op.call { callee := Callee.value (Operand.func 97), args := #[Operand.tmp 9], argTypes := #[9] }, type := 116, pos := "l6_aes.go:225", after := #[{ on := 0, ground := Ground.data }], guard := none }) rfl (fun K' hK' => ?_) ?_
      · go_simp
        refine (cipherOf_ok s _ hs).mono ?_
        rintro e w363 ⟨gt, gk, cap, rfl, Tw363, Kw363, HB364'⟩
        have HB364 := HB362.trans (HB364'.mono HB362.size)
        have Zw363 := Zx361.later HB364'
        refine hK'.out _ _ HB364 (fun _ => ?_)
        clear hK' K'
        try simp only [Act.put, List.setIfInBounds_toArray, List.set_cons_zero, List.set_cons_succ]
        refine wpAnyH_ready (rs := [3, 7]) (by kernel_rfl) (by simp) ?_
        refine AllReadyH.cons (o := { dst := some 12, op := Op.call { callee := Callee.value (Operand.func 98), args := #[Operand.tmp 11], argTypes := #[9] }, type := 119, pos := "l6_aes.go:225", after := #[{ on := 2, ground := Ground.data }, { on := 1, ground := Ground.chain }], guard := none }) rfl (fun K' hK' => ?_) ?_
        · go_simp
          refine (gridOf_no t _ ht ht1).mono ?_
          rintro e w365 ⟨⟨u0, pv, rfl⟩, HB366⟩
          first | exact ⟨⟨_, _, rfl⟩, HB364.trans (HB366.mono HB364.size)⟩ | exact ⟨⟨_, _, rfl⟩, HB364.trans (HB366.mono HB364.size), rfl⟩ | exact ⟨HB364.trans (HB366.mono HB364.size), rfl⟩ | exact HB364.trans (HB366.mono HB364.size)
        refine AllReadyH.cons (o := { dst := some 5, op := Op.alloc 119, type := 0, pos := "l6_aes.go:225", after := #[], guard := none }) rfl (fun K' hK' => ?_) AllReadyH.nil
        go_simp
        have HB368 := HB364.alloc HB364.size (.cells #[.int .u8 0, .int .u8 0, .int .u8 0, .int .u8 0, .int .u8 0, .int .u8 0, .int .u8 0, .int .u8 0, .int .u8 0, .int .u8 0, .int .u8 0, .int .u8 0, .int .u8 0, .int .u8 0, .int .u8 0, .int .u8 0] 119)
        have aBx367 := HB364.size
        have Tx367 := RBlater Tw363 (below_box _ (.cells #[.int .u8 0, .int .u8 0, .int .u8 0, .int .u8 0, .int .u8 0, .int .u8 0, .int .u8 0, .int .u8 0, .int .u8 0, .int .u8 0, .int .u8 0, .int .u8 0, .int .u8 0, .int .u8 0, .int .u8 0, .int .u8 0] 119))
        have Kx367 := Kw363.later (below_box _ (.cells #[.int .u8 0, .int .u8 0, .int .u8 0, .int .u8 0, .int .u8 0, .int .u8 0, .int .u8 0, .int .u8 0, .int .u8 0, .int .u8 0, .int .u8 0, .int .u8 0, .int .u8 0, .int .u8 0, .int .u8 0, .int .u8 0] 119))
        have Zx367 := Zw363.later (below_box _ (.cells #[.int .u8 0, .int .u8 0, .int .u8 0, .int .u8 0, .int .u8 0, .int .u8 0, .int .u8 0, .int .u8 0, .int .u8 0, .int .u8 0, .int .u8 0, .int .u8 0, .int .u8 0, .int .u8 0, .int .u8 0, .int .u8 0] 119))
        have Rx367 : RB (w363.alloc (.cells #[.int .u8 0, .int .u8 0, .int .u8 0, .int .u8 0, .int .u8 0, .int .u8 0, .int .u8 0, .int .u8 0, .int .u8 0, .int .u8 0, .int .u8 0, .int .u8 0, .int .u8 0, .int .u8 0, .int .u8 0, .int .u8 0] 119)) w363.heap.size 16 119 (fun _ => 0) := by
          rw [zeroG]; exact RB.new w363 16 _ _
        refine hK'.out _ _ HB368 (fun _ => ?_)
        clear hK' K'
        try simp only [Act.put, List.setIfInBounds_toArray, List.set_cons_zero, List.set_cons_succ]
        refine wpAnyH_ready (rs := [3]) (by kernel_rfl) (by simp) ?_
        refine AllReadyH.cons (o := { dst := some 12, op := Op.call { callee := Callee.value (Operand.func 98), args := #[Operand.tmp 11], argTypes := #[9] }, type := 119, pos := "l6_aes.go:225", after := #[{ on := 2, ground := Ground.data }, { on := 1, ground := Ground.chain }], guard := none }) rfl (fun K' hK' => ?_) AllReadyH.nil
        go_simp
        refine (gridOf_no t _ ht ht1).mono ?_
        rintro e w369 ⟨⟨u0, pv, rfl⟩, HB370⟩
        first | exact ⟨⟨_, _, rfl⟩, HB368.trans (HB370.mono HB368.size)⟩ | exact ⟨⟨_, _, rfl⟩, HB368.trans (HB370.mono HB368.size), rfl⟩ | exact ⟨HB368.trans (HB370.mono HB368.size), rfl⟩ | exact HB368.trans (HB370.mono HB368.size)
      refine AllReadyH.cons (o := { dst := some 5, op := Op.alloc 119, type := 0, pos := "l6_aes.go:225", after := #[], guard := none }) rfl (fun K' hK' => ?_) AllReadyH.nil
      go_simp
      have HB372 := HB362.alloc HB362.size (.cells #[.int .u8 0, .int .u8 0, .int .u8 0, .int .u8 0, .int .u8 0, .int .u8 0, .int .u8 0, .int .u8 0, .int .u8 0, .int .u8 0, .int .u8 0, .int .u8 0, .int .u8 0, .int .u8 0, .int .u8 0, .int .u8 0] 119)
      have aBx371 := HB362.size
      have Zx371 := Zx361.later (below_box _ (.cells #[.int .u8 0, .int .u8 0, .int .u8 0, .int .u8 0, .int .u8 0, .int .u8 0, .int .u8 0, .int .u8 0, .int .u8 0, .int .u8 0, .int .u8 0, .int .u8 0, .int .u8 0, .int .u8 0, .int .u8 0, .int .u8 0] 119))
      have Rx371 : RB ((w.drew.alloc (.cells #[.pointer none, .slice none 0 0] 116)).alloc (.cells #[.int .u8 0, .int .u8 0, .int .u8 0, .int .u8 0, .int .u8 0, .int .u8 0, .int .u8 0, .int .u8 0, .int .u8 0, .int .u8 0, .int .u8 0, .int .u8 0, .int .u8 0, .int .u8 0, .int .u8 0, .int .u8 0] 119)) (w.drew.alloc (.cells #[.pointer none, .slice none 0 0] 116)).heap.size 16 119 (fun _ => 0) := by
        rw [zeroG]; exact RB.new (w.drew.alloc (.cells #[.pointer none, .slice none 0 0] 116)) 16 _ _
      have qx371 : (w.drew.alloc (.cells #[.pointer none, .slice none 0 0] 116)).heap.size = (w.drew.heap.size + 1) := by simp
      rw [qx371] at Rx371 aBx371
      refine hK'.out _ _ HB372 (fun _ => ?_)
      clear hK' K'
      try simp only [Act.put, List.setIfInBounds_toArray, List.set_cons_zero, List.set_cons_succ]
      refine wpAnyH_ready (rs := [1]) (by kernel_rfl) (by simp) ?_
      refine AllReadyH.cons (o := { dst := some 10, op := Op.call { callee := Callee.value (Operand.func 97), args := #[Operand.tmp 9], argTypes := #[9] }, type := 116, pos := "l6_aes.go:225", after := #[{ on := 0, ground := Ground.data }], guard := none }) rfl (fun K' hK' => ?_) AllReadyH.nil
      go_simp
      refine (cipherOf_ok s _ hs).mono ?_
      rintro e w373 ⟨gt, gk, cap, rfl, Tw373, Kw373, HB374'⟩
      have HB374 := HB372.trans (HB374'.mono HB372.size)
      have Rw373 := RBlater Rx371 HB374'
      have Zw373 := Zx371.later HB374'
      refine hK'.out _ _ HB374 (fun _ => ?_)
      clear hK' K'
      try simp only [Act.put, List.setIfInBounds_toArray, List.set_cons_zero, List.set_cons_succ]
      refine wpAnyH_ready (rs := [3]) (by kernel_rfl) (by simp) ?_
      refine AllReadyH.cons (o := { dst := some 12, op := Op.call { callee := Callee.value (Operand.func 98), args := #[Operand.tmp 11], argTypes := #[9] }, type := 119, pos := "l6_aes.go:225", after := #[{ on := 2, ground := Ground.data }, { on := 1, ground := Ground.chain }], guard := none }) rfl (fun K' hK' => ?_) AllReadyH.nil
      go_simp
      refine (gridOf_no t _ ht ht1).mono ?_
      rintro e w375 ⟨⟨u0, pv, rfl⟩, HB376⟩
      first | exact ⟨⟨_, _, rfl⟩, HB374.trans (HB376.mono HB374.size)⟩ | exact ⟨⟨_, _, rfl⟩, HB374.trans (HB376.mono HB374.size), rfl⟩ | exact ⟨HB374.trans (HB376.mono HB374.size), rfl⟩ | exact HB374.trans (HB376.mono HB374.size)
    refine AllReadyH.cons (o := { dst := some 5, op := Op.alloc 119, type := 0, pos := "l6_aes.go:225", after := #[], guard := none }) rfl (fun K' hK' => ?_) AllReadyH.nil
    go_simp
    have HB378 := H0.alloc H0.size (.cells #[.int .u8 0, .int .u8 0, .int .u8 0, .int .u8 0, .int .u8 0, .int .u8 0, .int .u8 0, .int .u8 0, .int .u8 0, .int .u8 0, .int .u8 0, .int .u8 0, .int .u8 0, .int .u8 0, .int .u8 0, .int .u8 0] 119)
    have aBx377 := H0.size
    have Rx377 : RB (w.drew.alloc (.cells #[.int .u8 0, .int .u8 0, .int .u8 0, .int .u8 0, .int .u8 0, .int .u8 0, .int .u8 0, .int .u8 0, .int .u8 0, .int .u8 0, .int .u8 0, .int .u8 0, .int .u8 0, .int .u8 0, .int .u8 0, .int .u8 0] 119)) w.drew.heap.size 16 119 (fun _ => 0) := by
      rw [zeroG]; exact RB.new w.drew 16 _ _
    refine hK'.out _ _ HB378 (fun _ => ?_)
    clear hK' K'
    try simp only [Act.put, List.setIfInBounds_toArray, List.set_cons_zero, List.set_cons_succ]
    refine wpAnyH_ready (rs := [1, 6]) (by kernel_rfl) (by simp) ?_
    refine AllReadyH.cons (o := { dst := some 10, op := Op.call { callee := Callee.value (Operand.func 97), args := #[Operand.tmp 9], argTypes := #[9] }, type := 116, pos := "l6_aes.go:225", after := #[{ on := 0, ground := Ground.data }], guard := none }) rfl (fun K' hK' => ?_) ?_
    · go_simp
      refine (cipherOf_ok s _ hs).mono ?_
      rintro e w379 ⟨gt, gk, cap, rfl, Tw379, Kw379, HB380'⟩
      have HB380 := HB378.trans (HB380'.mono HB378.size)
      have Rw379 := RBlater Rx377 HB380'
      refine hK'.out _ _ HB380 (fun _ => ?_)
      clear hK' K'
      try simp only [Act.put, List.setIfInBounds_toArray, List.set_cons_zero, List.set_cons_succ]
      refine wpAnyH_ready (rs := [3, 6]) (by kernel_rfl) (by simp) ?_
      refine AllReadyH.cons (o := { dst := some 12, op := Op.call { callee := Callee.value (Operand.func 98), args := #[Operand.tmp 11], argTypes := #[9] }, type := 119, pos := "l6_aes.go:225", after := #[{ on := 2, ground := Ground.data }, { on := 1, ground := Ground.chain }], guard := none }) rfl (fun K' hK' => ?_) ?_
      · go_simp
        refine (gridOf_no t _ ht ht1).mono ?_
        rintro e w381 ⟨⟨u0, pv, rfl⟩, HB382⟩
        first | exact ⟨⟨_, _, rfl⟩, HB380.trans (HB382.mono HB380.size)⟩ | exact ⟨⟨_, _, rfl⟩, HB380.trans (HB382.mono HB380.size), rfl⟩ | exact ⟨HB380.trans (HB382.mono HB380.size), rfl⟩ | exact HB380.trans (HB382.mono HB380.size)
      refine AllReadyH.cons (o := { dst := some 4, op := Op.alloc 116, type := 0, pos := "l6_aes.go:225", after := #[], guard := none }) rfl (fun K' hK' => ?_) AllReadyH.nil
      go_simp
      have HB384 := HB380.alloc HB380.size (.cells #[.pointer none, .slice none 0 0] 116)
      have cBx383 := HB380.size
      have Tx383 := RBlater Tw379 (below_box _ (.cells #[.pointer none, .slice none 0 0] 116))
      have Kx383 := Kw379.later (below_box _ (.cells #[.pointer none, .slice none 0 0] 116))
      have Rx383 := RBlater Rw379 (below_box _ (.cells #[.pointer none, .slice none 0 0] 116))
      have Zx383 := CZ.new w379
      refine hK'.out _ _ HB384 (fun _ => ?_)
      clear hK' K'
      try simp only [Act.put, List.setIfInBounds_toArray, List.set_cons_zero, List.set_cons_succ]
      refine wpAnyH_ready (rs := [3]) (by kernel_rfl) (by simp) ?_
      refine AllReadyH.cons (o := { dst := some 12, op := Op.call { callee := Callee.value (Operand.func 98), args := #[Operand.tmp 11], argTypes := #[9] }, type := 119, pos := "l6_aes.go:225", after := #[{ on := 2, ground := Ground.data }, { on := 1, ground := Ground.chain }], guard := none }) rfl (fun K' hK' => ?_) AllReadyH.nil
      go_simp
      refine (gridOf_no t _ ht ht1).mono ?_
      rintro e w385 ⟨⟨u0, pv, rfl⟩, HB386⟩
      first | exact ⟨⟨_, _, rfl⟩, HB384.trans (HB386.mono HB384.size)⟩ | exact ⟨⟨_, _, rfl⟩, HB384.trans (HB386.mono HB384.size), rfl⟩ | exact ⟨HB384.trans (HB386.mono HB384.size), rfl⟩ | exact HB384.trans (HB386.mono HB384.size)
    refine AllReadyH.cons (o := { dst := some 4, op := Op.alloc 116, type := 0, pos := "l6_aes.go:225", after := #[], guard := none }) rfl (fun K' hK' => ?_) AllReadyH.nil
    go_simp
    have HB388 := HB378.alloc HB378.size (.cells #[.pointer none, .slice none 0 0] 116)
    have cBx387 := HB378.size
    have Rx387 := RBlater Rx377 (below_box _ (.cells #[.pointer none, .slice none 0 0] 116))
    have qx387 : (w.drew.alloc (.cells #[.int .u8 0, .int .u8 0, .int .u8 0, .int .u8 0, .int .u8 0, .int .u8 0, .int .u8 0, .int .u8 0, .int .u8 0, .int .u8 0, .int .u8 0, .int .u8 0, .int .u8 0, .int .u8 0, .int .u8 0, .int .u8 0] 119)).heap.size = (w.drew.heap.size + 1) := by simp
    have Zx387 : CZ ((w.drew.alloc (.cells #[.int .u8 0, .int .u8 0, .int .u8 0, .int .u8 0, .int .u8 0, .int .u8 0, .int .u8 0, .int .u8 0, .int .u8 0, .int .u8 0, .int .u8 0, .int .u8 0, .int .u8 0, .int .u8 0, .int .u8 0, .int .u8 0] 119)).alloc (.cells #[.pointer none, .slice none 0 0] 116)) (w.drew.heap.size + 1) := by have := CZ.new (w.drew.alloc (.cells #[.int .u8 0, .int .u8 0, .int .u8 0, .int .u8 0, .int .u8 0, .int .u8 0, .int .u8 0, .int .u8 0, .int .u8 0, .int .u8 0, .int .u8 0, .int .u8 0, .int .u8 0, .int .u8 0, .int .u8 0, .int .u8 0] 119)); rw [qx387] at this; exact this
    rw [qx387] at cBx387
    refine hK'.out _ _ HB388 (fun _ => ?_)
    clear hK' K'
    try simp only [Act.put, List.setIfInBounds_toArray, List.set_cons_zero, List.set_cons_succ]
    refine wpAnyH_ready (rs := [1]) (by kernel_rfl) (by simp) ?_
    refine AllReadyH.cons (o := { dst := some 10, op := Op.call { callee := Callee.value (Operand.func 97), args := #[Operand.tmp 9], argTypes := #[9] }, type := 116, pos := "l6_aes.go:225", after := #[{ on := 0, ground := Ground.data }], guard := none }) rfl (fun K' hK' => ?_) AllReadyH.nil
    go_simp
    refine (cipherOf_ok s _ hs).mono ?_
    rintro e w389 ⟨gt, gk, cap, rfl, Tw389, Kw389, HB390'⟩
    have HB390 := HB388.trans (HB390'.mono HB388.size)
    have Rw389 := RBlater Rx387 HB390'
    have Zw389 := Zx387.later HB390'
    refine hK'.out _ _ HB390 (fun _ => ?_)
    clear hK' K'
    try simp only [Act.put, List.setIfInBounds_toArray, List.set_cons_zero, List.set_cons_succ]
    refine wpAnyH_ready (rs := [3]) (by kernel_rfl) (by simp) ?_
    refine AllReadyH.cons (o := { dst := some 12, op := Op.call { callee := Callee.value (Operand.func 98), args := #[Operand.tmp 11], argTypes := #[9] }, type := 119, pos := "l6_aes.go:225", after := #[{ on := 2, ground := Ground.data }, { on := 1, ground := Ground.chain }], guard := none }) rfl (fun K' hK' => ?_) AllReadyH.nil
    go_simp
    refine (gridOf_no t _ ht ht1).mono ?_
    rintro e w391 ⟨⟨u0, pv, rfl⟩, HB392⟩
    first | exact ⟨⟨_, _, rfl⟩, HB390.trans (HB392.mono HB390.size)⟩ | exact ⟨⟨_, _, rfl⟩, HB390.trans (HB392.mono HB390.size), rfl⟩ | exact ⟨HB390.trans (HB392.mono HB390.size), rfl⟩ | exact HB390.trans (HB392.mono HB390.size)
set_option maxHeartbeats 4000000 in
set_option maxRecDepth 100000 in
theorem chg_no3 (s t u : ByteArray) (b c d : Nat) (w : World) (hs : s.size = 16) (ht : t.size = 16) (hu : ¬ (u.size % 16 = 0 ∧ u.size ≤ 320)) (hu1 : u.size ≤ 1048576) (hb : w.cell? ⟨b, 0, none⟩ = some (.string s)) (hc : w.cell? ⟨c, 0, none⟩ = some (.string t)) (hd : w.cell? ⟨d, 0, none⟩ = some (.string u)) :
    Calls Tryz.prog 142 #[.pointer (some ⟨b, 0, none⟩), .pointer (some ⟨c, 0, none⟩), .pointer (some ⟨d, 0, none⟩)] w fun e w' => PanP w e w' := by
  have lb : b < w.heap.size := lt_of_cell hb
  have lc : c < w.heap.size := lt_of_cell hc
  have ld : d < w.heap.size := lt_of_cell hd
  go_enter Tryz.func142, Tryz.ntmps142
  go_wp2_with fail
  refine Code.wp_mono (Q := fun e a' w' => match e with | .panic c => (∃ u pv, c = [{ v := .iface u pv, recovered := false }]) ∧ Below w.heap.size w w' ∧ a'.defers = [] | _ => False) ?_ ?_
  · intro e a' w' h
    cases e <;> first | exact h.elim | skip
    obtain ⟨⟨u0, pv, rfl⟩, hB, hD⟩ := h
    have HB := hid_in hB
    clear hB
    go_wp2_with fail
    unfold bodyPost
    exact ⟨hD, ⟨_, _, rfl⟩, HB.out⟩
  · have H0 : Below w.heap.size w w.drew := (Below.refl _ _).drew
    refine wp_region_held_drew (S := fun w' => Below w.heap.size w w') (by kernel_rfl) H0 (fun _ => ?_)
    refine wpAnyH_take (i := 0) (oi := { dst := some 9, op := Op.load 9 (Operand.tmp 0), type := 9, pos := "l6_aes.go:225", after := #[], guard := none }) (v := .string s) rfl (by kernel_rfl) (by kernel_rfl) (by kernel_rfl) (fun _ _ _ h => h) (Or.inl ⟨by rfl, ?_⟩) H0 ?_
    · intro w' hw
      have hc1 := (hw.cell (p := ⟨b, 0, none⟩) lb).trans hb
      go_simp
    try simp only [Act.put, List.setIfInBounds_toArray, List.set_cons_zero, List.set_cons_succ]
    refine wpAnyH_take (i := 2) (oi := { dst := some 11, op := Op.load 9 (Operand.tmp 1), type := 9, pos := "l6_aes.go:225", after := #[], guard := none }) (v := .string t) rfl (by kernel_rfl) (by kernel_rfl) (by kernel_rfl) (fun _ _ _ h => h) (Or.inl ⟨by rfl, ?_⟩) H0 ?_
    · intro w' hw
      have hc1 := (hw.cell (p := ⟨c, 0, none⟩) lc).trans hc
      go_simp
    try simp only [Act.put, List.setIfInBounds_toArray, List.set_cons_zero, List.set_cons_succ]
    refine wpAnyH_take (i := 4) (oi := { dst := some 13, op := Op.load 9 (Operand.tmp 2), type := 9, pos := "l6_aes.go:225", after := #[], guard := none }) (v := .string u) rfl (by kernel_rfl) (by kernel_rfl) (by kernel_rfl) (fun _ _ _ h => h) (Or.inl ⟨by rfl, ?_⟩) H0 ?_
    · intro w' hw
      have hc1 := (hw.cell (p := ⟨d, 0, none⟩) ld).trans hd
      go_simp
    try simp only [Act.put, List.setIfInBounds_toArray, List.set_cons_zero, List.set_cons_succ]
    refine wpAnyH_ready (rs := [1, 6, 7]) (by kernel_rfl) (by simp) ?_
    refine AllReadyH.cons (o := { dst := some 10, op := Op.call { callee := Callee.value (Operand.func 97), args := #[Operand.tmp 9], argTypes := #[9] }, type := 116, pos := "l6_aes.go:225", after := #[{ on := 0, ground := Ground.data }], guard := none }) rfl (fun K' hK' => ?_) ?_
    · go_simp
      refine (cipherOf_ok s _ hs).mono ?_
      rintro e w393 ⟨gt, gk, cap, rfl, Tw393, Kw393, HB394'⟩
      have HB394 := H0.trans (HB394'.mono H0.size)
      refine hK'.out _ _ HB394 (fun _ => ?_)
      clear hK' K'
      try simp only [Act.put, List.setIfInBounds_toArray, List.set_cons_zero, List.set_cons_succ]
      refine wpAnyH_ready (rs := [3, 6, 7]) (by kernel_rfl) (by simp) ?_
      refine AllReadyH.cons (o := { dst := some 12, op := Op.call { callee := Callee.value (Operand.func 98), args := #[Operand.tmp 11], argTypes := #[9] }, type := 119, pos := "l6_aes.go:225", after := #[{ on := 2, ground := Ground.data }, { on := 1, ground := Ground.chain }], guard := none }) rfl (fun K' hK' => ?_) ?_
      · go_simp
        refine (gridOf_ok t _ ht).mono ?_
        rintro e w395 ⟨rfl, HB396'⟩
        have HB396 := HB394.trans (HB396'.mono HB394.size)
        have Tw395 := RBlater Tw393 HB396'
        have Kw395 := Kw393.later HB396'
        refine hK'.out _ _ HB396 (fun _ => ?_)
        clear hK' K'
        try simp only [Act.put, List.setIfInBounds_toArray, List.set_cons_zero, List.set_cons_succ]
        refine wpAnyH_ready (rs := [5, 6, 7]) (by kernel_rfl) (by simp) ?_
        refine AllReadyH.cons (o := { dst := some 14, op := Op.call { callee := Callee.value (Operand.func 99), args := #[Operand.tmp 13], argTypes := #[9] }, type := 114, pos := "l6_aes.go:225", after := #[{ on := 4, ground := Ground.data }, { on := 3, ground := Ground.chain }], guard := none }) rfl (fun K' hK' => ?_) ?_
        · go_simp
          refine (gridsOf_no u _ hu hu1).mono ?_
          rintro e w397 ⟨⟨u0, pv, rfl⟩, HB398⟩
          first | exact ⟨⟨_, _, rfl⟩, HB396.trans (HB398.mono HB396.size)⟩ | exact ⟨⟨_, _, rfl⟩, HB396.trans (HB398.mono HB396.size), rfl⟩ | exact ⟨HB396.trans (HB398.mono HB396.size), rfl⟩ | exact HB396.trans (HB398.mono HB396.size)
        refine AllReadyH.cons (o := { dst := some 4, op := Op.alloc 116, type := 0, pos := "l6_aes.go:225", after := #[], guard := none }) rfl (fun K' hK' => ?_) ?_
        · go_simp
          have HB400 := HB396.alloc HB396.size (.cells #[.pointer none, .slice none 0 0] 116)
          have cBx399 := HB396.size
          have Tx399 := RBlater Tw395 (below_box _ (.cells #[.pointer none, .slice none 0 0] 116))
          have Kx399 := Kw395.later (below_box _ (.cells #[.pointer none, .slice none 0 0] 116))
          have Zx399 := CZ.new w395
          refine hK'.out _ _ HB400 (fun _ => ?_)
          clear hK' K'
          try simp only [Act.put, List.setIfInBounds_toArray, List.set_cons_zero, List.set_cons_succ]
          refine wpAnyH_ready (rs := [5, 7]) (by kernel_rfl) (by simp) ?_
          refine AllReadyH.cons (o := { dst := some 14, op := Op.call { callee := Callee.value (Operand.func 99), args := #[Operand.tmp 13], argTypes := #[9] }, type := 114, pos := "l6_aes.go:225", after := #[{ on := 4, ground := Ground.data }, { on := 3, ground := Ground.chain }], guard := none }) rfl (fun K' hK' => ?_) ?_
          · go_simp
            refine (gridsOf_no u _ hu hu1).mono ?_
            rintro e w401 ⟨⟨u0, pv, rfl⟩, HB402⟩
            first | exact ⟨⟨_, _, rfl⟩, HB400.trans (HB402.mono HB400.size)⟩ | exact ⟨⟨_, _, rfl⟩, HB400.trans (HB402.mono HB400.size), rfl⟩ | exact ⟨HB400.trans (HB402.mono HB400.size), rfl⟩ | exact HB400.trans (HB402.mono HB400.size)
          refine AllReadyH.cons (o := { dst := some 5, op := Op.alloc 119, type := 0, pos := "l6_aes.go:225", after := #[], guard := none }) rfl (fun K' hK' => ?_) AllReadyH.nil
          go_simp
          have HB404 := HB400.alloc HB400.size (.cells #[.int .u8 0, .int .u8 0, .int .u8 0, .int .u8 0, .int .u8 0, .int .u8 0, .int .u8 0, .int .u8 0, .int .u8 0, .int .u8 0, .int .u8 0, .int .u8 0, .int .u8 0, .int .u8 0, .int .u8 0, .int .u8 0] 119)
          have aBx403 := HB400.size
          have Tx403 := RBlater Tx399 (below_box _ (.cells #[.int .u8 0, .int .u8 0, .int .u8 0, .int .u8 0, .int .u8 0, .int .u8 0, .int .u8 0, .int .u8 0, .int .u8 0, .int .u8 0, .int .u8 0, .int .u8 0, .int .u8 0, .int .u8 0, .int .u8 0, .int .u8 0] 119))
          have Kx403 := Kx399.later (below_box _ (.cells #[.int .u8 0, .int .u8 0, .int .u8 0, .int .u8 0, .int .u8 0, .int .u8 0, .int .u8 0, .int .u8 0, .int .u8 0, .int .u8 0, .int .u8 0, .int .u8 0, .int .u8 0, .int .u8 0, .int .u8 0, .int .u8 0] 119))
          have Zx403 := Zx399.later (below_box _ (.cells #[.int .u8 0, .int .u8 0, .int .u8 0, .int .u8 0, .int .u8 0, .int .u8 0, .int .u8 0, .int .u8 0, .int .u8 0, .int .u8 0, .int .u8 0, .int .u8 0, .int .u8 0, .int .u8 0, .int .u8 0, .int .u8 0] 119))
          have Rx403 : RB ((w395.alloc (.cells #[.pointer none, .slice none 0 0] 116)).alloc (.cells #[.int .u8 0, .int .u8 0, .int .u8 0, .int .u8 0, .int .u8 0, .int .u8 0, .int .u8 0, .int .u8 0, .int .u8 0, .int .u8 0, .int .u8 0, .int .u8 0, .int .u8 0, .int .u8 0, .int .u8 0, .int .u8 0] 119)) (w395.alloc (.cells #[.pointer none, .slice none 0 0] 116)).heap.size 16 119 (fun _ => 0) := by
            rw [zeroG]; exact RB.new (w395.alloc (.cells #[.pointer none, .slice none 0 0] 116)) 16 _ _
          have qx403 : (w395.alloc (.cells #[.pointer none, .slice none 0 0] 116)).heap.size = (w395.heap.size + 1) := by simp
          rw [qx403] at Rx403 aBx403
          refine hK'.out _ _ HB404 (fun _ => ?_)
          clear hK' K'
          try simp only [Act.put, List.setIfInBounds_toArray, List.set_cons_zero, List.set_cons_succ]
          refine wpAnyH_ready (rs := [5]) (by kernel_rfl) (by simp) ?_
          refine AllReadyH.cons (o := { dst := some 14, op := Op.call { callee := Callee.value (Operand.func 99), args := #[Operand.tmp 13], argTypes := #[9] }, type := 114, pos := "l6_aes.go:225", after := #[{ on := 4, ground := Ground.data }, { on := 3, ground := Ground.chain }], guard := none }) rfl (fun K' hK' => ?_) AllReadyH.nil
          go_simp
          refine (gridsOf_no u _ hu hu1).mono ?_
          rintro e w405 ⟨⟨u0, pv, rfl⟩, HB406⟩
          first | exact ⟨⟨_, _, rfl⟩, HB404.trans (HB406.mono HB404.size)⟩ | exact ⟨⟨_, _, rfl⟩, HB404.trans (HB406.mono HB404.size), rfl⟩ | exact ⟨HB404.trans (HB406.mono HB404.size), rfl⟩ | exact HB404.trans (HB406.mono HB404.size)
        refine AllReadyH.cons (o := { dst := some 5, op := Op.alloc 119, type := 0, pos := "l6_aes.go:225", after := #[], guard := none }) rfl (fun K' hK' => ?_) AllReadyH.nil
        go_simp
        have HB408 := HB396.alloc HB396.size (.cells #[.int .u8 0, .int .u8 0, .int .u8 0, .int .u8 0, .int .u8 0, .int .u8 0, .int .u8 0, .int .u8 0, .int .u8 0, .int .u8 0, .int .u8 0, .int .u8 0, .int .u8 0, .int .u8 0, .int .u8 0, .int .u8 0] 119)
        have aBx407 := HB396.size
        have Tx407 := RBlater Tw395 (below_box _ (.cells #[.int .u8 0, .int .u8 0, .int .u8 0, .int .u8 0, .int .u8 0, .int .u8 0, .int .u8 0, .int .u8 0, .int .u8 0, .int .u8 0, .int .u8 0, .int .u8 0, .int .u8 0, .int .u8 0, .int .u8 0, .int .u8 0] 119))
        have Kx407 := Kw395.later (below_box _ (.cells #[.int .u8 0, .int .u8 0, .int .u8 0, .int .u8 0, .int .u8 0, .int .u8 0, .int .u8 0, .int .u8 0, .int .u8 0, .int .u8 0, .int .u8 0, .int .u8 0, .int .u8 0, .int .u8 0, .int .u8 0, .int .u8 0] 119))
        have Rx407 : RB (w395.alloc (.cells #[.int .u8 0, .int .u8 0, .int .u8 0, .int .u8 0, .int .u8 0, .int .u8 0, .int .u8 0, .int .u8 0, .int .u8 0, .int .u8 0, .int .u8 0, .int .u8 0, .int .u8 0, .int .u8 0, .int .u8 0, .int .u8 0] 119)) w395.heap.size 16 119 (fun _ => 0) := by
          rw [zeroG]; exact RB.new w395 16 _ _
        refine hK'.out _ _ HB408 (fun _ => ?_)
        clear hK' K'
        try simp only [Act.put, List.setIfInBounds_toArray, List.set_cons_zero, List.set_cons_succ]
        refine wpAnyH_ready (rs := [5, 6]) (by kernel_rfl) (by simp) ?_
        refine AllReadyH.cons (o := { dst := some 14, op := Op.call { callee := Callee.value (Operand.func 99), args := #[Operand.tmp 13], argTypes := #[9] }, type := 114, pos := "l6_aes.go:225", after := #[{ on := 4, ground := Ground.data }, { on := 3, ground := Ground.chain }], guard := none }) rfl (fun K' hK' => ?_) ?_
        · go_simp
          refine (gridsOf_no u _ hu hu1).mono ?_
          rintro e w409 ⟨⟨u0, pv, rfl⟩, HB410⟩
          first | exact ⟨⟨_, _, rfl⟩, HB408.trans (HB410.mono HB408.size)⟩ | exact ⟨⟨_, _, rfl⟩, HB408.trans (HB410.mono HB408.size), rfl⟩ | exact ⟨HB408.trans (HB410.mono HB408.size), rfl⟩ | exact HB408.trans (HB410.mono HB408.size)
        refine AllReadyH.cons (o := { dst := some 4, op := Op.alloc 116, type := 0, pos := "l6_aes.go:225", after := #[], guard := none }) rfl (fun K' hK' => ?_) AllReadyH.nil
        go_simp
        have HB412 := HB408.alloc HB408.size (.cells #[.pointer none, .slice none 0 0] 116)
        have cBx411 := HB408.size
        have Tx411 := RBlater Tx407 (below_box _ (.cells #[.pointer none, .slice none 0 0] 116))
        have Kx411 := Kx407.later (below_box _ (.cells #[.pointer none, .slice none 0 0] 116))
        have Rx411 := RBlater Rx407 (below_box _ (.cells #[.pointer none, .slice none 0 0] 116))
        have qx411 : (w395.alloc (.cells #[.int .u8 0, .int .u8 0, .int .u8 0, .int .u8 0, .int .u8 0, .int .u8 0, .int .u8 0, .int .u8 0, .int .u8 0, .int .u8 0, .int .u8 0, .int .u8 0, .int .u8 0, .int .u8 0, .int .u8 0, .int .u8 0] 119)).heap.size = (w395.heap.size + 1) := by simp
        have Zx411 : CZ ((w395.alloc (.cells #[.int .u8 0, .int .u8 0, .int .u8 0, .int .u8 0, .int .u8 0, .int .u8 0, .int .u8 0, .int .u8 0, .int .u8 0, .int .u8 0, .int .u8 0, .int .u8 0, .int .u8 0, .int .u8 0, .int .u8 0, .int .u8 0] 119)).alloc (.cells #[.pointer none, .slice none 0 0] 116)) (w395.heap.size + 1) := by have := CZ.new (w395.alloc (.cells #[.int .u8 0, .int .u8 0, .int .u8 0, .int .u8 0, .int .u8 0, .int .u8 0, .int .u8 0, .int .u8 0, .int .u8 0, .int .u8 0, .int .u8 0, .int .u8 0, .int .u8 0, .int .u8 0, .int .u8 0, .int .u8 0] 119)); rw [qx411] at this; exact this
        rw [qx411] at cBx411
        refine hK'.out _ _ HB412 (fun _ => ?_)
        clear hK' K'
        try simp only [Act.put, List.setIfInBounds_toArray, List.set_cons_zero, List.set_cons_succ]
        refine wpAnyH_ready (rs := [5]) (by kernel_rfl) (by simp) ?_
        refine AllReadyH.cons (o := { dst := some 14, op := Op.call { callee := Callee.value (Operand.func 99), args := #[Operand.tmp 13], argTypes := #[9] }, type := 114, pos := "l6_aes.go:225", after := #[{ on := 4, ground := Ground.data }, { on := 3, ground := Ground.chain }], guard := none }) rfl (fun K' hK' => ?_) AllReadyH.nil
        go_simp
        refine (gridsOf_no u _ hu hu1).mono ?_
        rintro e w413 ⟨⟨u0, pv, rfl⟩, HB414⟩
        first | exact ⟨⟨_, _, rfl⟩, HB412.trans (HB414.mono HB412.size)⟩ | exact ⟨⟨_, _, rfl⟩, HB412.trans (HB414.mono HB412.size), rfl⟩ | exact ⟨HB412.trans (HB414.mono HB412.size), rfl⟩ | exact HB412.trans (HB414.mono HB412.size)
      refine AllReadyH.cons (o := { dst := some 4, op := Op.alloc 116, type := 0, pos := "l6_aes.go:225", after := #[], guard := none }) rfl (fun K' hK' => ?_) ?_
      · go_simp
        have HB416 := HB394.alloc HB394.size (.cells #[.pointer none, .slice none 0 0] 116)
        have cBx415 := HB394.size
        have Tx415 := RBlater Tw393 (below_box _ (.cells #[.pointer none, .slice none 0 0] 116))
        have Kx415 := Kw393.later (below_box _ (.cells #[.pointer none, .slice none 0 0] 116))
        have Zx415 := CZ.new w393
        refine hK'.out _ _ HB416 (fun _ => ?_)
        clear hK' K'
        try simp only [Act.put, List.setIfInBounds_toArray, List.set_cons_zero, List.set_cons_succ]
        refine wpAnyH_ready (rs := [3, 7]) (by kernel_rfl) (by simp) ?_
        refine AllReadyH.cons (o := { dst := some 12, op := Op.call { callee := Callee.value (Operand.func 98), args := #[Operand.tmp 11], argTypes := #[9] }, type := 119, pos := "l6_aes.go:225", after := #[{ on := 2, ground := Ground.data }, { on := 1, ground := Ground.chain }], guard := none }) rfl (fun K' hK' => ?_) ?_
        · go_simp
          refine (gridOf_ok t _ ht).mono ?_
          rintro e w417 ⟨rfl, HB418'⟩
          have HB418 := HB416.trans (HB418'.mono HB416.size)
          have Tw417 := RBlater Tx415 HB418'
          have Kw417 := Kx415.later HB418'
          have Zw417 := Zx415.later HB418'
          refine hK'.out _ _ HB418 (fun _ => ?_)
          clear hK' K'
          try simp only [Act.put, List.setIfInBounds_toArray, List.set_cons_zero, List.set_cons_succ]
          refine wpAnyH_ready (rs := [5, 7]) (by kernel_rfl) (by simp) ?_
          refine AllReadyH.cons (o := { dst := some 14, op := Op.call { callee := Callee.value (Operand.func 99), args := #[Operand.tmp 13], argTypes := #[9] }, type := 114, pos := "l6_aes.go:225", after := #[{ on := 4, ground := Ground.data }, { on := 3, ground := Ground.chain }], guard := none }) rfl (fun K' hK' => ?_) ?_
          · go_simp
            refine (gridsOf_no u _ hu hu1).mono ?_
            rintro e w419 ⟨⟨u0, pv, rfl⟩, HB420⟩
            first | exact ⟨⟨_, _, rfl⟩, HB418.trans (HB420.mono HB418.size)⟩ | exact ⟨⟨_, _, rfl⟩, HB418.trans (HB420.mono HB418.size), rfl⟩ | exact ⟨HB418.trans (HB420.mono HB418.size), rfl⟩ | exact HB418.trans (HB420.mono HB418.size)
          refine AllReadyH.cons (o := { dst := some 5, op := Op.alloc 119, type := 0, pos := "l6_aes.go:225", after := #[], guard := none }) rfl (fun K' hK' => ?_) AllReadyH.nil
          go_simp
          have HB422 := HB418.alloc HB418.size (.cells #[.int .u8 0, .int .u8 0, .int .u8 0, .int .u8 0, .int .u8 0, .int .u8 0, .int .u8 0, .int .u8 0, .int .u8 0, .int .u8 0, .int .u8 0, .int .u8 0, .int .u8 0, .int .u8 0, .int .u8 0, .int .u8 0] 119)
          have aBx421 := HB418.size
          have Tx421 := RBlater Tw417 (below_box _ (.cells #[.int .u8 0, .int .u8 0, .int .u8 0, .int .u8 0, .int .u8 0, .int .u8 0, .int .u8 0, .int .u8 0, .int .u8 0, .int .u8 0, .int .u8 0, .int .u8 0, .int .u8 0, .int .u8 0, .int .u8 0, .int .u8 0] 119))
          have Kx421 := Kw417.later (below_box _ (.cells #[.int .u8 0, .int .u8 0, .int .u8 0, .int .u8 0, .int .u8 0, .int .u8 0, .int .u8 0, .int .u8 0, .int .u8 0, .int .u8 0, .int .u8 0, .int .u8 0, .int .u8 0, .int .u8 0, .int .u8 0, .int .u8 0] 119))
          have Zx421 := Zw417.later (below_box _ (.cells #[.int .u8 0, .int .u8 0, .int .u8 0, .int .u8 0, .int .u8 0, .int .u8 0, .int .u8 0, .int .u8 0, .int .u8 0, .int .u8 0, .int .u8 0, .int .u8 0, .int .u8 0, .int .u8 0, .int .u8 0, .int .u8 0] 119))
          have Rx421 : RB (w417.alloc (.cells #[.int .u8 0, .int .u8 0, .int .u8 0, .int .u8 0, .int .u8 0, .int .u8 0, .int .u8 0, .int .u8 0, .int .u8 0, .int .u8 0, .int .u8 0, .int .u8 0, .int .u8 0, .int .u8 0, .int .u8 0, .int .u8 0] 119)) w417.heap.size 16 119 (fun _ => 0) := by
            rw [zeroG]; exact RB.new w417 16 _ _
          refine hK'.out _ _ HB422 (fun _ => ?_)
          clear hK' K'
          try simp only [Act.put, List.setIfInBounds_toArray, List.set_cons_zero, List.set_cons_succ]
          refine wpAnyH_ready (rs := [5]) (by kernel_rfl) (by simp) ?_
          refine AllReadyH.cons (o := { dst := some 14, op := Op.call { callee := Callee.value (Operand.func 99), args := #[Operand.tmp 13], argTypes := #[9] }, type := 114, pos := "l6_aes.go:225", after := #[{ on := 4, ground := Ground.data }, { on := 3, ground := Ground.chain }], guard := none }) rfl (fun K' hK' => ?_) AllReadyH.nil
          go_simp
          refine (gridsOf_no u _ hu hu1).mono ?_
          rintro e w423 ⟨⟨u0, pv, rfl⟩, HB424⟩
          first | exact ⟨⟨_, _, rfl⟩, HB422.trans (HB424.mono HB422.size)⟩ | exact ⟨⟨_, _, rfl⟩, HB422.trans (HB424.mono HB422.size), rfl⟩ | exact ⟨HB422.trans (HB424.mono HB422.size), rfl⟩ | exact HB422.trans (HB424.mono HB422.size)
        refine AllReadyH.cons (o := { dst := some 5, op := Op.alloc 119, type := 0, pos := "l6_aes.go:225", after := #[], guard := none }) rfl (fun K' hK' => ?_) AllReadyH.nil
        go_simp
        have HB426 := HB416.alloc HB416.size (.cells #[.int .u8 0, .int .u8 0, .int .u8 0, .int .u8 0, .int .u8 0, .int .u8 0, .int .u8 0, .int .u8 0, .int .u8 0, .int .u8 0, .int .u8 0, .int .u8 0, .int .u8 0, .int .u8 0, .int .u8 0, .int .u8 0] 119)
        have aBx425 := HB416.size
        have Tx425 := RBlater Tx415 (below_box _ (.cells #[.int .u8 0, .int .u8 0, .int .u8 0, .int .u8 0, .int .u8 0, .int .u8 0, .int .u8 0, .int .u8 0, .int .u8 0, .int .u8 0, .int .u8 0, .int .u8 0, .int .u8 0, .int .u8 0, .int .u8 0, .int .u8 0] 119))
        have Kx425 := Kx415.later (below_box _ (.cells #[.int .u8 0, .int .u8 0, .int .u8 0, .int .u8 0, .int .u8 0, .int .u8 0, .int .u8 0, .int .u8 0, .int .u8 0, .int .u8 0, .int .u8 0, .int .u8 0, .int .u8 0, .int .u8 0, .int .u8 0, .int .u8 0] 119))
        have Zx425 := Zx415.later (below_box _ (.cells #[.int .u8 0, .int .u8 0, .int .u8 0, .int .u8 0, .int .u8 0, .int .u8 0, .int .u8 0, .int .u8 0, .int .u8 0, .int .u8 0, .int .u8 0, .int .u8 0, .int .u8 0, .int .u8 0, .int .u8 0, .int .u8 0] 119))
        have Rx425 : RB ((w393.alloc (.cells #[.pointer none, .slice none 0 0] 116)).alloc (.cells #[.int .u8 0, .int .u8 0, .int .u8 0, .int .u8 0, .int .u8 0, .int .u8 0, .int .u8 0, .int .u8 0, .int .u8 0, .int .u8 0, .int .u8 0, .int .u8 0, .int .u8 0, .int .u8 0, .int .u8 0, .int .u8 0] 119)) (w393.alloc (.cells #[.pointer none, .slice none 0 0] 116)).heap.size 16 119 (fun _ => 0) := by
          rw [zeroG]; exact RB.new (w393.alloc (.cells #[.pointer none, .slice none 0 0] 116)) 16 _ _
        have qx425 : (w393.alloc (.cells #[.pointer none, .slice none 0 0] 116)).heap.size = (w393.heap.size + 1) := by simp
        rw [qx425] at Rx425 aBx425
        refine hK'.out _ _ HB426 (fun _ => ?_)
        clear hK' K'
        try simp only [Act.put, List.setIfInBounds_toArray, List.set_cons_zero, List.set_cons_succ]
        refine wpAnyH_ready (rs := [3]) (by kernel_rfl) (by simp) ?_
        refine AllReadyH.cons (o := { dst := some 12, op := Op.call { callee := Callee.value (Operand.func 98), args := #[Operand.tmp 11], argTypes := #[9] }, type := 119, pos := "l6_aes.go:225", after := #[{ on := 2, ground := Ground.data }, { on := 1, ground := Ground.chain }], guard := none }) rfl (fun K' hK' => ?_) AllReadyH.nil
        go_simp
        refine (gridOf_ok t _ ht).mono ?_
        rintro e w427 ⟨rfl, HB428'⟩
        have HB428 := HB426.trans (HB428'.mono HB426.size)
        have Tw427 := RBlater Tx425 HB428'
        have Kw427 := Kx425.later HB428'
        have Rw427 := RBlater Rx425 HB428'
        have Zw427 := Zx425.later HB428'
        refine hK'.out _ _ HB428 (fun _ => ?_)
        clear hK' K'
        try simp only [Act.put, List.setIfInBounds_toArray, List.set_cons_zero, List.set_cons_succ]
        refine wpAnyH_ready (rs := [5]) (by kernel_rfl) (by simp) ?_
        refine AllReadyH.cons (o := { dst := some 14, op := Op.call { callee := Callee.value (Operand.func 99), args := #[Operand.tmp 13], argTypes := #[9] }, type := 114, pos := "l6_aes.go:225", after := #[{ on := 4, ground := Ground.data }, { on := 3, ground := Ground.chain }], guard := none }) rfl (fun K' hK' => ?_) AllReadyH.nil
        go_simp
        refine (gridsOf_no u _ hu hu1).mono ?_
        rintro e w429 ⟨⟨u0, pv, rfl⟩, HB430⟩
        first | exact ⟨⟨_, _, rfl⟩, HB428.trans (HB430.mono HB428.size)⟩ | exact ⟨⟨_, _, rfl⟩, HB428.trans (HB430.mono HB428.size), rfl⟩ | exact ⟨HB428.trans (HB430.mono HB428.size), rfl⟩ | exact HB428.trans (HB430.mono HB428.size)
      refine AllReadyH.cons (o := { dst := some 5, op := Op.alloc 119, type := 0, pos := "l6_aes.go:225", after := #[], guard := none }) rfl (fun K' hK' => ?_) AllReadyH.nil
      go_simp
      have HB432 := HB394.alloc HB394.size (.cells #[.int .u8 0, .int .u8 0, .int .u8 0, .int .u8 0, .int .u8 0, .int .u8 0, .int .u8 0, .int .u8 0, .int .u8 0, .int .u8 0, .int .u8 0, .int .u8 0, .int .u8 0, .int .u8 0, .int .u8 0, .int .u8 0] 119)
      have aBx431 := HB394.size
      have Tx431 := RBlater Tw393 (below_box _ (.cells #[.int .u8 0, .int .u8 0, .int .u8 0, .int .u8 0, .int .u8 0, .int .u8 0, .int .u8 0, .int .u8 0, .int .u8 0, .int .u8 0, .int .u8 0, .int .u8 0, .int .u8 0, .int .u8 0, .int .u8 0, .int .u8 0] 119))
      have Kx431 := Kw393.later (below_box _ (.cells #[.int .u8 0, .int .u8 0, .int .u8 0, .int .u8 0, .int .u8 0, .int .u8 0, .int .u8 0, .int .u8 0, .int .u8 0, .int .u8 0, .int .u8 0, .int .u8 0, .int .u8 0, .int .u8 0, .int .u8 0, .int .u8 0] 119))
      have Rx431 : RB (w393.alloc (.cells #[.int .u8 0, .int .u8 0, .int .u8 0, .int .u8 0, .int .u8 0, .int .u8 0, .int .u8 0, .int .u8 0, .int .u8 0, .int .u8 0, .int .u8 0, .int .u8 0, .int .u8 0, .int .u8 0, .int .u8 0, .int .u8 0] 119)) w393.heap.size 16 119 (fun _ => 0) := by
        rw [zeroG]; exact RB.new w393 16 _ _
      refine hK'.out _ _ HB432 (fun _ => ?_)
      clear hK' K'
      try simp only [Act.put, List.setIfInBounds_toArray, List.set_cons_zero, List.set_cons_succ]
      refine wpAnyH_ready (rs := [3, 6]) (by kernel_rfl) (by simp) ?_
      refine AllReadyH.cons (o := { dst := some 12, op := Op.call { callee := Callee.value (Operand.func 98), args := #[Operand.tmp 11], argTypes := #[9] }, type := 119, pos := "l6_aes.go:225", after := #[{ on := 2, ground := Ground.data }, { on := 1, ground := Ground.chain }], guard := none }) rfl (fun K' hK' => ?_) ?_
      · go_simp
        refine (gridOf_ok t _ ht).mono ?_
        rintro e w433 ⟨rfl, HB434'⟩
        have HB434 := HB432.trans (HB434'.mono HB432.size)
        have Tw433 := RBlater Tx431 HB434'
        have Kw433 := Kx431.later HB434'
        have Rw433 := RBlater Rx431 HB434'
        refine hK'.out _ _ HB434 (fun _ => ?_)
        clear hK' K'
        try simp only [Act.put, List.setIfInBounds_toArray, List.set_cons_zero, List.set_cons_succ]
        refine wpAnyH_ready (rs := [5, 6]) (by kernel_rfl) (by simp) ?_
        refine AllReadyH.cons (o := { dst := some 14, op := Op.call { callee := Callee.value (Operand.func 99), args := #[Operand.tmp 13], argTypes := #[9] }, type := 114, pos := "l6_aes.go:225", after := #[{ on := 4, ground := Ground.data }, { on := 3, ground := Ground.chain }], guard := none }) rfl (fun K' hK' => ?_) ?_
        · go_simp
          refine (gridsOf_no u _ hu hu1).mono ?_
          rintro e w435 ⟨⟨u0, pv, rfl⟩, HB436⟩
          first | exact ⟨⟨_, _, rfl⟩, HB434.trans (HB436.mono HB434.size)⟩ | exact ⟨⟨_, _, rfl⟩, HB434.trans (HB436.mono HB434.size), rfl⟩ | exact ⟨HB434.trans (HB436.mono HB434.size), rfl⟩ | exact HB434.trans (HB436.mono HB434.size)
        refine AllReadyH.cons (o := { dst := some 4, op := Op.alloc 116, type := 0, pos := "l6_aes.go:225", after := #[], guard := none }) rfl (fun K' hK' => ?_) AllReadyH.nil
        go_simp
        have HB438 := HB434.alloc HB434.size (.cells #[.pointer none, .slice none 0 0] 116)
        have cBx437 := HB434.size
        have Tx437 := RBlater Tw433 (below_box _ (.cells #[.pointer none, .slice none 0 0] 116))
        have Kx437 := Kw433.later (below_box _ (.cells #[.pointer none, .slice none 0 0] 116))
        have Rx437 := RBlater Rw433 (below_box _ (.cells #[.pointer none, .slice none 0 0] 116))
        have Zx437 := CZ.new w433
        refine hK'.out _ _ HB438 (fun _ => ?_)
        clear hK' K'
        try simp only [Act.put, List.setIfInBounds_toArray, List.set_cons_zero, List.set_cons_succ]
        refine wpAnyH_ready (rs := [5]) (by kernel_rfl) (by simp) ?_
        refine AllReadyH.cons (o := { dst := some 14, op := Op.call { callee := Callee.value (Operand.func 99), args := #[Operand.tmp 13], argTypes := #[9] }, type := 114, pos := "l6_aes.go:225", after := #[{ on := 4, ground := Ground.data }, { on := 3, ground := Ground.chain }], guard := none }) rfl (fun K' hK' => ?_) AllReadyH.nil
        go_simp
        refine (gridsOf_no u _ hu hu1).mono ?_
        rintro e w439 ⟨⟨u0, pv, rfl⟩, HB440⟩
        first | exact ⟨⟨_, _, rfl⟩, HB438.trans (HB440.mono HB438.size)⟩ | exact ⟨⟨_, _, rfl⟩, HB438.trans (HB440.mono HB438.size), rfl⟩ | exact ⟨HB438.trans (HB440.mono HB438.size), rfl⟩ | exact HB438.trans (HB440.mono HB438.size)
      refine AllReadyH.cons (o := { dst := some 4, op := Op.alloc 116, type := 0, pos := "l6_aes.go:225", after := #[], guard := none }) rfl (fun K' hK' => ?_) AllReadyH.nil
      go_simp
      have HB442 := HB432.alloc HB432.size (.cells #[.pointer none, .slice none 0 0] 116)
      have cBx441 := HB432.size
      have Tx441 := RBlater Tx431 (below_box _ (.cells #[.pointer none, .slice none 0 0] 116))
      have Kx441 := Kx431.later (below_box _ (.cells #[.pointer none, .slice none 0 0] 116))
      have Rx441 := RBlater Rx431 (below_box _ (.cells #[.pointer none, .slice none 0 0] 116))
      have qx441 : (w393.alloc (.cells #[.int .u8 0, .int .u8 0, .int .u8 0, .int .u8 0, .int .u8 0, .int .u8 0, .int .u8 0, .int .u8 0, .int .u8 0, .int .u8 0, .int .u8 0, .int .u8 0, .int .u8 0, .int .u8 0, .int .u8 0, .int .u8 0] 119)).heap.size = (w393.heap.size + 1) := by simp
      have Zx441 : CZ ((w393.alloc (.cells #[.int .u8 0, .int .u8 0, .int .u8 0, .int .u8 0, .int .u8 0, .int .u8 0, .int .u8 0, .int .u8 0, .int .u8 0, .int .u8 0, .int .u8 0, .int .u8 0, .int .u8 0, .int .u8 0, .int .u8 0, .int .u8 0] 119)).alloc (.cells #[.pointer none, .slice none 0 0] 116)) (w393.heap.size + 1) := by have := CZ.new (w393.alloc (.cells #[.int .u8 0, .int .u8 0, .int .u8 0, .int .u8 0, .int .u8 0, .int .u8 0, .int .u8 0, .int .u8 0, .int .u8 0, .int .u8 0, .int .u8 0, .int .u8 0, .int .u8 0, .int .u8 0, .int .u8 0, .int .u8 0] 119)); rw [qx441] at this; exact this
      rw [qx441] at cBx441
      refine hK'.out _ _ HB442 (fun _ => ?_)
      clear hK' K'
      try simp only [Act.put, List.setIfInBounds_toArray, List.set_cons_zero, List.set_cons_succ]
      refine wpAnyH_ready (rs := [3]) (by kernel_rfl) (by simp) ?_
      refine AllReadyH.cons (o := { dst := some 12, op := Op.call { callee := Callee.value (Operand.func 98), args := #[Operand.tmp 11], argTypes := #[9] }, type := 119, pos := "l6_aes.go:225", after := #[{ on := 2, ground := Ground.data }, { on := 1, ground := Ground.chain }], guard := none }) rfl (fun K' hK' => ?_) AllReadyH.nil
      go_simp
      refine (gridOf_ok t _ ht).mono ?_
      rintro e w443 ⟨rfl, HB444'⟩
      have HB444 := HB442.trans (HB444'.mono HB442.size)
      have Tw443 := RBlater Tx441 HB444'
      have Kw443 := Kx441.later HB444'
      have Rw443 := RBlater Rx441 HB444'
      have Zw443 := Zx441.later HB444'
      refine hK'.out _ _ HB444 (fun _ => ?_)
      clear hK' K'
      try simp only [Act.put, List.setIfInBounds_toArray, List.set_cons_zero, List.set_cons_succ]
      refine wpAnyH_ready (rs := [5]) (by kernel_rfl) (by simp) ?_
      refine AllReadyH.cons (o := { dst := some 14, op := Op.call { callee := Callee.value (Operand.func 99), args := #[Operand.tmp 13], argTypes := #[9] }, type := 114, pos := "l6_aes.go:225", after := #[{ on := 4, ground := Ground.data }, { on := 3, ground := Ground.chain }], guard := none }) rfl (fun K' hK' => ?_) AllReadyH.nil
      go_simp
      refine (gridsOf_no u _ hu hu1).mono ?_
      rintro e w445 ⟨⟨u0, pv, rfl⟩, HB446⟩
      first | exact ⟨⟨_, _, rfl⟩, HB444.trans (HB446.mono HB444.size)⟩ | exact ⟨⟨_, _, rfl⟩, HB444.trans (HB446.mono HB444.size), rfl⟩ | exact ⟨HB444.trans (HB446.mono HB444.size), rfl⟩ | exact HB444.trans (HB446.mono HB444.size)
    refine AllReadyH.cons (o := { dst := some 4, op := Op.alloc 116, type := 0, pos := "l6_aes.go:225", after := #[], guard := none }) rfl (fun K' hK' => ?_) ?_
    · go_simp
      have HB448 := H0.alloc H0.size (.cells #[.pointer none, .slice none 0 0] 116)
      have cBx447 := H0.size
      have Zx447 := CZ.new w.drew
      refine hK'.out _ _ HB448 (fun _ => ?_)
      clear hK' K'
      try simp only [Act.put, List.setIfInBounds_toArray, List.set_cons_zero, List.set_cons_succ]
      refine wpAnyH_ready (rs := [1, 7]) (by kernel_rfl) (by simp) ?_
      refine AllReadyH.cons (o := { dst := some 10, op := Op.call { callee := Callee.value (Operand.func 97), args := #[Operand.tmp 9], argTypes := #[9] }, type := 116, pos := "l6_aes.go:225", after := #[{ on := 0, ground := Ground.data }], guard := none }) rfl (fun K' hK' => ?_) ?_
      · go_simp
        refine (cipherOf_ok s _ hs).mono ?_
        rintro e w449 ⟨gt, gk, cap, rfl, Tw449, Kw449, HB450'⟩
        have HB450 := HB448.trans (HB450'.mono HB448.size)
        have Zw449 := Zx447.later HB450'
        refine hK'.out _ _ HB450 (fun _ => ?_)
        clear hK' K'
        try simp only [Act.put, List.setIfInBounds_toArray, List.set_cons_zero, List.set_cons_succ]
        refine wpAnyH_ready (rs := [3, 7]) (by kernel_rfl) (by simp) ?_
        refine AllReadyH.cons (o := { dst := some 12, op := Op.call { callee := Callee.value (Operand.func 98), args := #[Operand.tmp 11], argTypes := #[9] }, type := 119, pos := "l6_aes.go:225", after := #[{ on := 2, ground := Ground.data }, { on := 1, ground := Ground.chain }], guard := none }) rfl (fun K' hK' => ?_) ?_
        · go_simp
          refine (gridOf_ok t _ ht).mono ?_
          rintro e w451 ⟨rfl, HB452'⟩
          have HB452 := HB450.trans (HB452'.mono HB450.size)
          have Tw451 := RBlater Tw449 HB452'
          have Kw451 := Kw449.later HB452'
          have Zw451 := Zw449.later HB452'
          refine hK'.out _ _ HB452 (fun _ => ?_)
          clear hK' K'
          try simp only [Act.put, List.setIfInBounds_toArray, List.set_cons_zero, List.set_cons_succ]
          refine wpAnyH_ready (rs := [5, 7]) (by kernel_rfl) (by simp) ?_
          refine AllReadyH.cons (o := { dst := some 14, op := Op.call { callee := Callee.value (Operand.func 99), args := #[Operand.tmp 13], argTypes := #[9] }, type := 114, pos := "l6_aes.go:225", after := #[{ on := 4, ground := Ground.data }, { on := 3, ground := Ground.chain }], guard := none }) rfl (fun K' hK' => ?_) ?_
          · go_simp
            refine (gridsOf_no u _ hu hu1).mono ?_
            rintro e w453 ⟨⟨u0, pv, rfl⟩, HB454⟩
            first | exact ⟨⟨_, _, rfl⟩, HB452.trans (HB454.mono HB452.size)⟩ | exact ⟨⟨_, _, rfl⟩, HB452.trans (HB454.mono HB452.size), rfl⟩ | exact ⟨HB452.trans (HB454.mono HB452.size), rfl⟩ | exact HB452.trans (HB454.mono HB452.size)
          refine AllReadyH.cons (o := { dst := some 5, op := Op.alloc 119, type := 0, pos := "l6_aes.go:225", after := #[], guard := none }) rfl (fun K' hK' => ?_) AllReadyH.nil
          go_simp
          have HB456 := HB452.alloc HB452.size (.cells #[.int .u8 0, .int .u8 0, .int .u8 0, .int .u8 0, .int .u8 0, .int .u8 0, .int .u8 0, .int .u8 0, .int .u8 0, .int .u8 0, .int .u8 0, .int .u8 0, .int .u8 0, .int .u8 0, .int .u8 0, .int .u8 0] 119)
          have aBx455 := HB452.size
          have Tx455 := RBlater Tw451 (below_box _ (.cells #[.int .u8 0, .int .u8 0, .int .u8 0, .int .u8 0, .int .u8 0, .int .u8 0, .int .u8 0, .int .u8 0, .int .u8 0, .int .u8 0, .int .u8 0, .int .u8 0, .int .u8 0, .int .u8 0, .int .u8 0, .int .u8 0] 119))
          have Kx455 := Kw451.later (below_box _ (.cells #[.int .u8 0, .int .u8 0, .int .u8 0, .int .u8 0, .int .u8 0, .int .u8 0, .int .u8 0, .int .u8 0, .int .u8 0, .int .u8 0, .int .u8 0, .int .u8 0, .int .u8 0, .int .u8 0, .int .u8 0, .int .u8 0] 119))
          have Zx455 := Zw451.later (below_box _ (.cells #[.int .u8 0, .int .u8 0, .int .u8 0, .int .u8 0, .int .u8 0, .int .u8 0, .int .u8 0, .int .u8 0, .int .u8 0, .int .u8 0, .int .u8 0, .int .u8 0, .int .u8 0, .int .u8 0, .int .u8 0, .int .u8 0] 119))
          have Rx455 : RB (w451.alloc (.cells #[.int .u8 0, .int .u8 0, .int .u8 0, .int .u8 0, .int .u8 0, .int .u8 0, .int .u8 0, .int .u8 0, .int .u8 0, .int .u8 0, .int .u8 0, .int .u8 0, .int .u8 0, .int .u8 0, .int .u8 0, .int .u8 0] 119)) w451.heap.size 16 119 (fun _ => 0) := by
            rw [zeroG]; exact RB.new w451 16 _ _
          refine hK'.out _ _ HB456 (fun _ => ?_)
          clear hK' K'
          try simp only [Act.put, List.setIfInBounds_toArray, List.set_cons_zero, List.set_cons_succ]
          refine wpAnyH_ready (rs := [5]) (by kernel_rfl) (by simp) ?_
          refine AllReadyH.cons (o := { dst := some 14, op := Op.call { callee := Callee.value (Operand.func 99), args := #[Operand.tmp 13], argTypes := #[9] }, type := 114, pos := "l6_aes.go:225", after := #[{ on := 4, ground := Ground.data }, { on := 3, ground := Ground.chain }], guard := none }) rfl (fun K' hK' => ?_) AllReadyH.nil
          go_simp
          refine (gridsOf_no u _ hu hu1).mono ?_
          rintro e w457 ⟨⟨u0, pv, rfl⟩, HB458⟩
          first | exact ⟨⟨_, _, rfl⟩, HB456.trans (HB458.mono HB456.size)⟩ | exact ⟨⟨_, _, rfl⟩, HB456.trans (HB458.mono HB456.size), rfl⟩ | exact ⟨HB456.trans (HB458.mono HB456.size), rfl⟩ | exact HB456.trans (HB458.mono HB456.size)
        refine AllReadyH.cons (o := { dst := some 5, op := Op.alloc 119, type := 0, pos := "l6_aes.go:225", after := #[], guard := none }) rfl (fun K' hK' => ?_) AllReadyH.nil
        go_simp
        have HB460 := HB450.alloc HB450.size (.cells #[.int .u8 0, .int .u8 0, .int .u8 0, .int .u8 0, .int .u8 0, .int .u8 0, .int .u8 0, .int .u8 0, .int .u8 0, .int .u8 0, .int .u8 0, .int .u8 0, .int .u8 0, .int .u8 0, .int .u8 0, .int .u8 0] 119)
        have aBx459 := HB450.size
        have Tx459 := RBlater Tw449 (below_box _ (.cells #[.int .u8 0, .int .u8 0, .int .u8 0, .int .u8 0, .int .u8 0, .int .u8 0, .int .u8 0, .int .u8 0, .int .u8 0, .int .u8 0, .int .u8 0, .int .u8 0, .int .u8 0, .int .u8 0, .int .u8 0, .int .u8 0] 119))
        have Kx459 := Kw449.later (below_box _ (.cells #[.int .u8 0, .int .u8 0, .int .u8 0, .int .u8 0, .int .u8 0, .int .u8 0, .int .u8 0, .int .u8 0, .int .u8 0, .int .u8 0, .int .u8 0, .int .u8 0, .int .u8 0, .int .u8 0, .int .u8 0, .int .u8 0] 119))
        have Zx459 := Zw449.later (below_box _ (.cells #[.int .u8 0, .int .u8 0, .int .u8 0, .int .u8 0, .int .u8 0, .int .u8 0, .int .u8 0, .int .u8 0, .int .u8 0, .int .u8 0, .int .u8 0, .int .u8 0, .int .u8 0, .int .u8 0, .int .u8 0, .int .u8 0] 119))
        have Rx459 : RB (w449.alloc (.cells #[.int .u8 0, .int .u8 0, .int .u8 0, .int .u8 0, .int .u8 0, .int .u8 0, .int .u8 0, .int .u8 0, .int .u8 0, .int .u8 0, .int .u8 0, .int .u8 0, .int .u8 0, .int .u8 0, .int .u8 0, .int .u8 0] 119)) w449.heap.size 16 119 (fun _ => 0) := by
          rw [zeroG]; exact RB.new w449 16 _ _
        refine hK'.out _ _ HB460 (fun _ => ?_)
        clear hK' K'
        try simp only [Act.put, List.setIfInBounds_toArray, List.set_cons_zero, List.set_cons_succ]
        refine wpAnyH_ready (rs := [3]) (by kernel_rfl) (by simp) ?_
        refine AllReadyH.cons (o := { dst := some 12, op := Op.call { callee := Callee.value (Operand.func 98), args := #[Operand.tmp 11], argTypes := #[9] }, type := 119, pos := "l6_aes.go:225", after := #[{ on := 2, ground := Ground.data }, { on := 1, ground := Ground.chain }], guard := none }) rfl (fun K' hK' => ?_) AllReadyH.nil
        go_simp
        refine (gridOf_ok t _ ht).mono ?_
        rintro e w461 ⟨rfl, HB462'⟩
        have HB462 := HB460.trans (HB462'.mono HB460.size)
        have Tw461 := RBlater Tx459 HB462'
        have Kw461 := Kx459.later HB462'
        have Rw461 := RBlater Rx459 HB462'
        have Zw461 := Zx459.later HB462'
        refine hK'.out _ _ HB462 (fun _ => ?_)
        clear hK' K'
        try simp only [Act.put, List.setIfInBounds_toArray, List.set_cons_zero, List.set_cons_succ]
        refine wpAnyH_ready (rs := [5]) (by kernel_rfl) (by simp) ?_
        refine AllReadyH.cons (o := { dst := some 14, op := Op.call { callee := Callee.value (Operand.func 99), args := #[Operand.tmp 13], argTypes := #[9] }, type := 114, pos := "l6_aes.go:225", after := #[{ on := 4, ground := Ground.data }, { on := 3, ground := Ground.chain }], guard := none }) rfl (fun K' hK' => ?_) AllReadyH.nil
        go_simp
        refine (gridsOf_no u _ hu hu1).mono ?_
        rintro e w463 ⟨⟨u0, pv, rfl⟩, HB464⟩
        first | exact ⟨⟨_, _, rfl⟩, HB462.trans (HB464.mono HB462.size)⟩ | exact ⟨⟨_, _, rfl⟩, HB462.trans (HB464.mono HB462.size), rfl⟩ | exact ⟨HB462.trans (HB464.mono HB462.size), rfl⟩ | exact HB462.trans (HB464.mono HB462.size)
      refine AllReadyH.cons (o := { dst := some 5, op := Op.alloc 119, type := 0, pos := "l6_aes.go:225", after := #[], guard := none }) rfl (fun K' hK' => ?_) AllReadyH.nil
      go_simp
      have HB466 := HB448.alloc HB448.size (.cells #[.int .u8 0, .int .u8 0, .int .u8 0, .int .u8 0, .int .u8 0, .int .u8 0, .int .u8 0, .int .u8 0, .int .u8 0, .int .u8 0, .int .u8 0, .int .u8 0, .int .u8 0, .int .u8 0, .int .u8 0, .int .u8 0] 119)
      have aBx465 := HB448.size
      have Zx465 := Zx447.later (below_box _ (.cells #[.int .u8 0, .int .u8 0, .int .u8 0, .int .u8 0, .int .u8 0, .int .u8 0, .int .u8 0, .int .u8 0, .int .u8 0, .int .u8 0, .int .u8 0, .int .u8 0, .int .u8 0, .int .u8 0, .int .u8 0, .int .u8 0] 119))
      have Rx465 : RB ((w.drew.alloc (.cells #[.pointer none, .slice none 0 0] 116)).alloc (.cells #[.int .u8 0, .int .u8 0, .int .u8 0, .int .u8 0, .int .u8 0, .int .u8 0, .int .u8 0, .int .u8 0, .int .u8 0, .int .u8 0, .int .u8 0, .int .u8 0, .int .u8 0, .int .u8 0, .int .u8 0, .int .u8 0] 119)) (w.drew.alloc (.cells #[.pointer none, .slice none 0 0] 116)).heap.size 16 119 (fun _ => 0) := by
        rw [zeroG]; exact RB.new (w.drew.alloc (.cells #[.pointer none, .slice none 0 0] 116)) 16 _ _
      have qx465 : (w.drew.alloc (.cells #[.pointer none, .slice none 0 0] 116)).heap.size = (w.drew.heap.size + 1) := by simp
      rw [qx465] at Rx465 aBx465
      refine hK'.out _ _ HB466 (fun _ => ?_)
      clear hK' K'
      try simp only [Act.put, List.setIfInBounds_toArray, List.set_cons_zero, List.set_cons_succ]
      refine wpAnyH_ready (rs := [1]) (by kernel_rfl) (by simp) ?_
      refine AllReadyH.cons (o := { dst := some 10, op := Op.call { callee := Callee.value (Operand.func 97), args := #[Operand.tmp 9], argTypes := #[9] }, type := 116, pos := "l6_aes.go:225", after := #[{ on := 0, ground := Ground.data }], guard := none }) rfl (fun K' hK' => ?_) AllReadyH.nil
      go_simp
      refine (cipherOf_ok s _ hs).mono ?_
      rintro e w467 ⟨gt, gk, cap, rfl, Tw467, Kw467, HB468'⟩
      have HB468 := HB466.trans (HB468'.mono HB466.size)
      have Rw467 := RBlater Rx465 HB468'
      have Zw467 := Zx465.later HB468'
      refine hK'.out _ _ HB468 (fun _ => ?_)
      clear hK' K'
      try simp only [Act.put, List.setIfInBounds_toArray, List.set_cons_zero, List.set_cons_succ]
      refine wpAnyH_ready (rs := [3]) (by kernel_rfl) (by simp) ?_
      refine AllReadyH.cons (o := { dst := some 12, op := Op.call { callee := Callee.value (Operand.func 98), args := #[Operand.tmp 11], argTypes := #[9] }, type := 119, pos := "l6_aes.go:225", after := #[{ on := 2, ground := Ground.data }, { on := 1, ground := Ground.chain }], guard := none }) rfl (fun K' hK' => ?_) AllReadyH.nil
      go_simp
      refine (gridOf_ok t _ ht).mono ?_
      rintro e w469 ⟨rfl, HB470'⟩
      have HB470 := HB468.trans (HB470'.mono HB468.size)
      have Tw469 := RBlater Tw467 HB470'
      have Kw469 := Kw467.later HB470'
      have Rw469 := RBlater Rw467 HB470'
      have Zw469 := Zw467.later HB470'
      refine hK'.out _ _ HB470 (fun _ => ?_)
      clear hK' K'
      try simp only [Act.put, List.setIfInBounds_toArray, List.set_cons_zero, List.set_cons_succ]
      refine wpAnyH_ready (rs := [5]) (by kernel_rfl) (by simp) ?_
      refine AllReadyH.cons (o := { dst := some 14, op := Op.call { callee := Callee.value (Operand.func 99), args := #[Operand.tmp 13], argTypes := #[9] }, type := 114, pos := "l6_aes.go:225", after := #[{ on := 4, ground := Ground.data }, { on := 3, ground := Ground.chain }], guard := none }) rfl (fun K' hK' => ?_) AllReadyH.nil
      go_simp
      refine (gridsOf_no u _ hu hu1).mono ?_
      rintro e w471 ⟨⟨u0, pv, rfl⟩, HB472⟩
      first | exact ⟨⟨_, _, rfl⟩, HB470.trans (HB472.mono HB470.size)⟩ | exact ⟨⟨_, _, rfl⟩, HB470.trans (HB472.mono HB470.size), rfl⟩ | exact ⟨HB470.trans (HB472.mono HB470.size), rfl⟩ | exact HB470.trans (HB472.mono HB470.size)
    refine AllReadyH.cons (o := { dst := some 5, op := Op.alloc 119, type := 0, pos := "l6_aes.go:225", after := #[], guard := none }) rfl (fun K' hK' => ?_) AllReadyH.nil
    go_simp
    have HB474 := H0.alloc H0.size (.cells #[.int .u8 0, .int .u8 0, .int .u8 0, .int .u8 0, .int .u8 0, .int .u8 0, .int .u8 0, .int .u8 0, .int .u8 0, .int .u8 0, .int .u8 0, .int .u8 0, .int .u8 0, .int .u8 0, .int .u8 0, .int .u8 0] 119)
    have aBx473 := H0.size
    have Rx473 : RB (w.drew.alloc (.cells #[.int .u8 0, .int .u8 0, .int .u8 0, .int .u8 0, .int .u8 0, .int .u8 0, .int .u8 0, .int .u8 0, .int .u8 0, .int .u8 0, .int .u8 0, .int .u8 0, .int .u8 0, .int .u8 0, .int .u8 0, .int .u8 0] 119)) w.drew.heap.size 16 119 (fun _ => 0) := by
      rw [zeroG]; exact RB.new w.drew 16 _ _
    refine hK'.out _ _ HB474 (fun _ => ?_)
    clear hK' K'
    try simp only [Act.put, List.setIfInBounds_toArray, List.set_cons_zero, List.set_cons_succ]
    refine wpAnyH_ready (rs := [1, 6]) (by kernel_rfl) (by simp) ?_
    refine AllReadyH.cons (o := { dst := some 10, op := Op.call { callee := Callee.value (Operand.func 97), args := #[Operand.tmp 9], argTypes := #[9] }, type := 116, pos := "l6_aes.go:225", after := #[{ on := 0, ground := Ground.data }], guard := none }) rfl (fun K' hK' => ?_) ?_
    · go_simp
      refine (cipherOf_ok s _ hs).mono ?_
      rintro e w475 ⟨gt, gk, cap, rfl, Tw475, Kw475, HB476'⟩
      have HB476 := HB474.trans (HB476'.mono HB474.size)
      have Rw475 := RBlater Rx473 HB476'
      refine hK'.out _ _ HB476 (fun _ => ?_)
      clear hK' K'
      try simp only [Act.put, List.setIfInBounds_toArray, List.set_cons_zero, List.set_cons_succ]
      refine wpAnyH_ready (rs := [3, 6]) (by kernel_rfl) (by simp) ?_
      refine AllReadyH.cons (o := { dst := some 12, op := Op.call { callee := Callee.value (Operand.func 98), args := #[Operand.tmp 11], argTypes := #[9] }, type := 119, pos := "l6_aes.go:225", after := #[{ on := 2, ground := Ground.data }, { on := 1, ground := Ground.chain }], guard := none }) rfl (fun K' hK' => ?_) ?_
      · go_simp
        refine (gridOf_ok t _ ht).mono ?_
        rintro e w477 ⟨rfl, HB478'⟩
        have HB478 := HB476.trans (HB478'.mono HB476.size)
        have Tw477 := RBlater Tw475 HB478'
        have Kw477 := Kw475.later HB478'
        have Rw477 := RBlater Rw475 HB478'
        refine hK'.out _ _ HB478 (fun _ => ?_)
        clear hK' K'
        try simp only [Act.put, List.setIfInBounds_toArray, List.set_cons_zero, List.set_cons_succ]
        refine wpAnyH_ready (rs := [5, 6]) (by kernel_rfl) (by simp) ?_
        refine AllReadyH.cons (o := { dst := some 14, op := Op.call { callee := Callee.value (Operand.func 99), args := #[Operand.tmp 13], argTypes := #[9] }, type := 114, pos := "l6_aes.go:225", after := #[{ on := 4, ground := Ground.data }, { on := 3, ground := Ground.chain }], guard := none }) rfl (fun K' hK' => ?_) ?_
        · go_simp
          refine (gridsOf_no u _ hu hu1).mono ?_
          rintro e w479 ⟨⟨u0, pv, rfl⟩, HB480⟩
          first | exact ⟨⟨_, _, rfl⟩, HB478.trans (HB480.mono HB478.size)⟩ | exact ⟨⟨_, _, rfl⟩, HB478.trans (HB480.mono HB478.size), rfl⟩ | exact ⟨HB478.trans (HB480.mono HB478.size), rfl⟩ | exact HB478.trans (HB480.mono HB478.size)
        refine AllReadyH.cons (o := { dst := some 4, op := Op.alloc 116, type := 0, pos := "l6_aes.go:225", after := #[], guard := none }) rfl (fun K' hK' => ?_) AllReadyH.nil
        go_simp
        have HB482 := HB478.alloc HB478.size (.cells #[.pointer none, .slice none 0 0] 116)
        have cBx481 := HB478.size
        have Tx481 := RBlater Tw477 (below_box _ (.cells #[.pointer none, .slice none 0 0] 116))
        have Kx481 := Kw477.later (below_box _ (.cells #[.pointer none, .slice none 0 0] 116))
        have Rx481 := RBlater Rw477 (below_box _ (.cells #[.pointer none, .slice none 0 0] 116))
        have Zx481 := CZ.new w477
        refine hK'.out _ _ HB482 (fun _ => ?_)
        clear hK' K'
        try simp only [Act.put, List.setIfInBounds_toArray, List.set_cons_zero, List.set_cons_succ]
        refine wpAnyH_ready (rs := [5]) (by kernel_rfl) (by simp) ?_
        refine AllReadyH.cons (o := { dst := some 14, op := Op.call { callee := Callee.value (Operand.func 99), args := #[Operand.tmp 13], argTypes := #[9] }, type := 114, pos := "l6_aes.go:225", after := #[{ on := 4, ground := Ground.data }, { on := 3, ground := Ground.chain }], guard := none }) rfl (fun K' hK' => ?_) AllReadyH.nil
        go_simp
        refine (gridsOf_no u _ hu hu1).mono ?_
        rintro e w483 ⟨⟨u0, pv, rfl⟩, HB484⟩
        first | exact ⟨⟨_, _, rfl⟩, HB482.trans (HB484.mono HB482.size)⟩ | exact ⟨⟨_, _, rfl⟩, HB482.trans (HB484.mono HB482.size), rfl⟩ | exact ⟨HB482.trans (HB484.mono HB482.size), rfl⟩ | exact HB482.trans (HB484.mono HB482.size)
      refine AllReadyH.cons (o := { dst := some 4, op := Op.alloc 116, type := 0, pos := "l6_aes.go:225", after := #[], guard := none }) rfl (fun K' hK' => ?_) AllReadyH.nil
      go_simp
      have HB486 := HB476.alloc HB476.size (.cells #[.pointer none, .slice none 0 0] 116)
      have cBx485 := HB476.size
      have Tx485 := RBlater Tw475 (below_box _ (.cells #[.pointer none, .slice none 0 0] 116))
      have Kx485 := Kw475.later (below_box _ (.cells #[.pointer none, .slice none 0 0] 116))
      have Rx485 := RBlater Rw475 (below_box _ (.cells #[.pointer none, .slice none 0 0] 116))
      have Zx485 := CZ.new w475
      refine hK'.out _ _ HB486 (fun _ => ?_)
      clear hK' K'
      try simp only [Act.put, List.setIfInBounds_toArray, List.set_cons_zero, List.set_cons_succ]
      refine wpAnyH_ready (rs := [3]) (by kernel_rfl) (by simp) ?_
      refine AllReadyH.cons (o := { dst := some 12, op := Op.call { callee := Callee.value (Operand.func 98), args := #[Operand.tmp 11], argTypes := #[9] }, type := 119, pos := "l6_aes.go:225", after := #[{ on := 2, ground := Ground.data }, { on := 1, ground := Ground.chain }], guard := none }) rfl (fun K' hK' => ?_) AllReadyH.nil
      go_simp
      refine (gridOf_ok t _ ht).mono ?_
      rintro e w487 ⟨rfl, HB488'⟩
      have HB488 := HB486.trans (HB488'.mono HB486.size)
      have Tw487 := RBlater Tx485 HB488'
      have Kw487 := Kx485.later HB488'
      have Rw487 := RBlater Rx485 HB488'
      have Zw487 := Zx485.later HB488'
      refine hK'.out _ _ HB488 (fun _ => ?_)
      clear hK' K'
      try simp only [Act.put, List.setIfInBounds_toArray, List.set_cons_zero, List.set_cons_succ]
      refine wpAnyH_ready (rs := [5]) (by kernel_rfl) (by simp) ?_
      refine AllReadyH.cons (o := { dst := some 14, op := Op.call { callee := Callee.value (Operand.func 99), args := #[Operand.tmp 13], argTypes := #[9] }, type := 114, pos := "l6_aes.go:225", after := #[{ on := 4, ground := Ground.data }, { on := 3, ground := Ground.chain }], guard := none }) rfl (fun K' hK' => ?_) AllReadyH.nil
      go_simp
      refine (gridsOf_no u _ hu hu1).mono ?_
      rintro e w489 ⟨⟨u0, pv, rfl⟩, HB490⟩
      first | exact ⟨⟨_, _, rfl⟩, HB488.trans (HB490.mono HB488.size)⟩ | exact ⟨⟨_, _, rfl⟩, HB488.trans (HB490.mono HB488.size), rfl⟩ | exact ⟨HB488.trans (HB490.mono HB488.size), rfl⟩ | exact HB488.trans (HB490.mono HB488.size)
    refine AllReadyH.cons (o := { dst := some 4, op := Op.alloc 116, type := 0, pos := "l6_aes.go:225", after := #[], guard := none }) rfl (fun K' hK' => ?_) AllReadyH.nil
    go_simp
    have HB492 := HB474.alloc HB474.size (.cells #[.pointer none, .slice none 0 0] 116)
    have cBx491 := HB474.size
    have Rx491 := RBlater Rx473 (below_box _ (.cells #[.pointer none, .slice none 0 0] 116))
    have qx491 : (w.drew.alloc (.cells #[.int .u8 0, .int .u8 0, .int .u8 0, .int .u8 0, .int .u8 0, .int .u8 0, .int .u8 0, .int .u8 0, .int .u8 0, .int .u8 0, .int .u8 0, .int .u8 0, .int .u8 0, .int .u8 0, .int .u8 0, .int .u8 0] 119)).heap.size = (w.drew.heap.size + 1) := by simp
    have Zx491 : CZ ((w.drew.alloc (.cells #[.int .u8 0, .int .u8 0, .int .u8 0, .int .u8 0, .int .u8 0, .int .u8 0, .int .u8 0, .int .u8 0, .int .u8 0, .int .u8 0, .int .u8 0, .int .u8 0, .int .u8 0, .int .u8 0, .int .u8 0, .int .u8 0] 119)).alloc (.cells #[.pointer none, .slice none 0 0] 116)) (w.drew.heap.size + 1) := by have := CZ.new (w.drew.alloc (.cells #[.int .u8 0, .int .u8 0, .int .u8 0, .int .u8 0, .int .u8 0, .int .u8 0, .int .u8 0, .int .u8 0, .int .u8 0, .int .u8 0, .int .u8 0, .int .u8 0, .int .u8 0, .int .u8 0, .int .u8 0, .int .u8 0] 119)); rw [qx491] at this; exact this
    rw [qx491] at cBx491
    refine hK'.out _ _ HB492 (fun _ => ?_)
    clear hK' K'
    try simp only [Act.put, List.setIfInBounds_toArray, List.set_cons_zero, List.set_cons_succ]
    refine wpAnyH_ready (rs := [1]) (by kernel_rfl) (by simp) ?_
    refine AllReadyH.cons (o := { dst := some 10, op := Op.call { callee := Callee.value (Operand.func 97), args := #[Operand.tmp 9], argTypes := #[9] }, type := 116, pos := "l6_aes.go:225", after := #[{ on := 0, ground := Ground.data }], guard := none }) rfl (fun K' hK' => ?_) AllReadyH.nil
    go_simp
    refine (cipherOf_ok s _ hs).mono ?_
    rintro e w493 ⟨gt, gk, cap, rfl, Tw493, Kw493, HB494'⟩
    have HB494 := HB492.trans (HB494'.mono HB492.size)
    have Rw493 := RBlater Rx491 HB494'
    have Zw493 := Zx491.later HB494'
    refine hK'.out _ _ HB494 (fun _ => ?_)
    clear hK' K'
    try simp only [Act.put, List.setIfInBounds_toArray, List.set_cons_zero, List.set_cons_succ]
    refine wpAnyH_ready (rs := [3]) (by kernel_rfl) (by simp) ?_
    refine AllReadyH.cons (o := { dst := some 12, op := Op.call { callee := Callee.value (Operand.func 98), args := #[Operand.tmp 11], argTypes := #[9] }, type := 119, pos := "l6_aes.go:225", after := #[{ on := 2, ground := Ground.data }, { on := 1, ground := Ground.chain }], guard := none }) rfl (fun K' hK' => ?_) AllReadyH.nil
    go_simp
    refine (gridOf_ok t _ ht).mono ?_
    rintro e w495 ⟨rfl, HB496'⟩
    have HB496 := HB494.trans (HB496'.mono HB494.size)
    have Tw495 := RBlater Tw493 HB496'
    have Kw495 := Kw493.later HB496'
    have Rw495 := RBlater Rw493 HB496'
    have Zw495 := Zw493.later HB496'
    refine hK'.out _ _ HB496 (fun _ => ?_)
    clear hK' K'
    try simp only [Act.put, List.setIfInBounds_toArray, List.set_cons_zero, List.set_cons_succ]
    refine wpAnyH_ready (rs := [5]) (by kernel_rfl) (by simp) ?_
    refine AllReadyH.cons (o := { dst := some 14, op := Op.call { callee := Callee.value (Operand.func 99), args := #[Operand.tmp 13], argTypes := #[9] }, type := 114, pos := "l6_aes.go:225", after := #[{ on := 4, ground := Ground.data }, { on := 3, ground := Ground.chain }], guard := none }) rfl (fun K' hK' => ?_) AllReadyH.nil
    go_simp
    refine (gridsOf_no u _ hu hu1).mono ?_
    rintro e w497 ⟨⟨u0, pv, rfl⟩, HB498⟩
    first | exact ⟨⟨_, _, rfl⟩, HB496.trans (HB498.mono HB496.size)⟩ | exact ⟨⟨_, _, rfl⟩, HB496.trans (HB498.mono HB496.size), rfl⟩ | exact ⟨HB496.trans (HB498.mono HB496.size), rfl⟩ | exact HB496.trans (HB498.mono HB496.size)
set_option maxHeartbeats 8000000 in
set_option maxRecDepth 100000 in
theorem chg_ok (s t u : ByteArray) (b c d : Nat) (w : World) (n : Nat) (hs : s.size = 16) (ht : t.size = 16) (hu : u.size = 16 * n) (hn : n ≤ 20) (hb : w.cell? ⟨b, 0, none⟩ = some (.string s)) (hc : w.cell? ⟨c, 0, none⟩ = some (.string t)) (hd : w.cell? ⟨d, 0, none⟩ = some (.string u)) :
    Calls Tryz.prog 142 #[.pointer (some ⟨b, 0, none⟩), .pointer (some ⟨c, 0, none⟩), .pointer (some ⟨d, 0, none⟩)] w fun e w' => e = .returned (.string (txt (16 * n) (flatK (cd (KS (bn s)) (bn t) (blk u))))) ∧ Below w.heap.size w w' := by
  have lb : b < w.heap.size := lt_of_cell hb
  have lc : c < w.heap.size := lt_of_cell hc
  have ld : d < w.heap.size := lt_of_cell hd
  go_enter Tryz.func142, Tryz.ntmps142
  go_wp2_with fail
  refine Code.wp_mono (Q := fun e a' w' => match e with | .normal => ∃ gc gt gk cap ga v B, a' = { tmps := #[.pointer (some ⟨b, 0, none⟩), .pointer (some ⟨c, 0, none⟩), .pointer (some ⟨d, 0, none⟩), .string ⟨#[]⟩, .pointer (some ⟨gc, 0, none⟩), .pointer (some ⟨ga, 0, none⟩), v, undef, undef, .string s, .agg #[.pointer (some ⟨gt, 0, none⟩), .slice (some ⟨gk, 0, none⟩) 11 cap], .string t, .agg (rC 16 (bn t)), .string u, v, undef, undef, undef, undef, undef, undef, undef, undef, undef, undef, undef, undef, undef, undef, undef, undef, undef, undef, undef], defers := [] } ∧ HS w w' gc gt gk ga cap n B v (KS (bn s)) (blk u) (bn t) | _ => False) ?_ ?_
  · intro e a' w' h
    cases e <;> first | exact h.elim | skip
    obtain ⟨gc, gt, gk, cap, ga, v, B, rfl, H1⟩ := h
    have HW0 := hid_in H1
    clear H1
    obtain ⟨a, c0, rfl⟩ := HW0.out.lst.any
    have hKb := fun i (_ : i < 11) => KS_by (f := bn s) (fun i _ => bn_lt s i) i
    have hTb := blk_by u
    have hfb : By 16 (bn t) := fun i _ => bn_lt t i
    have hn40 : (n : Int) ≤ 20 := by omega
    go_wp2_with fail
    go_loopw [17] (fun x wr => ∃ k : Nat, k ≤ n ∧ x = .int .i64 (k : Int) ∧ Hid (HS w wr gc gt gk ga cap n B (.slice a n c0) (KS (bn s)) (fun i => if i < k then cd (KS (bn s)) (bn t) (blk u) i else blk u i) (if k = 0 then bn t else blk u (k - 1)))) (fun x _ => n - (intOf x).toNat)
    case atStart => exact ⟨0, by omega, rfl, HW0.out.congr (fun i _ j _ => by simp) (fun j _ => rfl)⟩
    case round =>
      obtain ⟨k, hk, rfl, HW⟩ := hrel
      clear HW0
      by_cases hlt : k < n
      · have HL := hid_in hlt
        obtain ⟨g, c1, cur, hu1, hc1, hg1, RL, hh, hz⟩ := HW.out.lst.row (by omega)
        have hu2 : a = some ⟨g, 0, none⟩ ∧ c0 = c1 := by simpa using hu1
        obtain ⟨rfl, rfl⟩ := hu2
        have q1 : (k : Int) < n := by omega
        have HKW := hid_in (RL.row k hlt)
        have HKW2 : Hid (∀ j, j < 16 → wr.cell? ((⟨g, k * 16, none⟩ : Addr).add j) = (rC 16 (blk u k))[j]?) := by
          have h := HKW.out
          rw [if_neg (Nat.lt_irrefl k)] at h
          exact h
        have Z1 : Hid (RB (wr.alloc (.cells #[.int .u8 0, .int .u8 0, .int .u8 0, .int .u8 0, .int .u8 0, .int .u8 0, .int .u8 0, .int .u8 0, .int .u8 0, .int .u8 0, .int .u8 0, .int .u8 0, .int .u8 0, .int .u8 0, .int .u8 0, .int .u8 0] 119)) wr.heap.size 16 119 (fun _ => 0)) := by
          rw [zeroG]; exact RB.new wr 16 _ _
        have B1 := hid_in (below_box wr (.cells #[.int .u8 0, .int .u8 0, .int .u8 0, .int .u8 0, .int .u8 0, .int .u8 0, .int .u8 0, .int .u8 0, .int .u8 0, .int .u8 0, .int .u8 0, .int .u8 0, .int .u8 0, .int .u8 0, .int .u8 0, .int .u8 0] 119))
        have hhK := hh
        clear hu1 RL hh hz HKW
        have TB := hTb k
        have FB : By 16 (if k = 0 then bn t else blk u (k - 1)) := by
          split
          · exact hfb
          · exact hTb _
        have DB := xor_by (dec_by hKb (hTb k) 10) (hKb 0 (by omega))
        obtain ⟨tf, htf⟩ : ∃ tf, (fun i => if i < k then cd (KS (bn s)) (bn t) (blk u) i else blk u i) = tf := ⟨_, rfl⟩
        obtain ⟨ck, hck⟩ : ∃ ck, (if k = 0 then bn t else blk u (k - 1)) = ck := ⟨_, rfl⟩
        obtain ⟨bk, hbk⟩ : ∃ bk, blk u k = bk := ⟨_, rfl⟩
        have CE : Hid ((fun i => (dec (KS (bn s)) (blk u k) 10 i ^^^ KS (bn s) 0 i) ^^^ (if k = 0 then bn t else blk u (k - 1)) i) = cd (KS (bn s)) (bn t) (blk u) k) := by
          show _ = _
          funext i
          unfold cd
          by_cases h0 : k = 0
          · rw [if_pos h0, if_pos h0]
          · rw [if_neg h0, if_neg h0]
        have TF := hid_in htf
        have BK := hid_in hbk
        rw [htf, hck] at HW
        rw [hbk] at HKW2 DB TB
        rw [hck, hbk] at CE
        rw [hck] at FB
        clear htf hck hbk
        obtain ⟨dk, hdk⟩ : ∃ dk, (fun i => dec (KS (bn s)) bk 10 i ^^^ KS (bn s) 0 i) = dk := ⟨_, rfl⟩
        have DK := hid_in hdk
        have CE2 : Hid ((fun i => dk i ^^^ ck i) = cd (KS (bn s)) (bn t) (blk u) k) := by
          rw [← hdk]; exact CE
        rw [hdk] at DB
        clear hdk CE
        have EB := xor_by DB FB
        obtain ⟨ek, hek⟩ : ∃ ek, (fun i => dk i ^^^ ck i) = ek := ⟨_, rfl⟩
        have EK := hid_in hek
        rw [hek] at EB CE2
        clear hek
        have WE := hid_in (fun (W : World) => by have := with_any dk ck W DB FB; rw [EK.out] at this; exact this)
        have PE := hid_in (fun (W : World) (h1 : RB W gt 512 171 (tabF 255)) (h2 : KR W gk 11 (KS (bn s))) => by have := get_any gt gk cap (KS (bn s)) bk W h1 h2 TB hKb; rw [DK.out] at this; exact this)
        go_wp2_with (first | (refine wpList_load_at aggG rfl (.tmp 20) rfl ⟨g, k * 16, none⟩ rfl (rC 16 bk) (rC_size _ _) HKW2.out ?_) | (refine wpList_store_row rfl 119 _ _ rfl wr.heap.size _ rfl rfl 119 _ Z1.out sizeG rfl (rC_one _ _) ?_))
        have B2 := hid_in (Below_setRow (cs := rC 16 bk) B1.out (Nat.le_refl _))
        have R2 : Hid (RB (World.setRow _ wr.heap.size (rC 16 bk)) wr.heap.size 16 119 bk) := setRow_at Z1.out
        have S2 : wr.heap.size < (World.setRow (wr.alloc (.cells #[.int .u8 0, .int .u8 0, .int .u8 0, .int .u8 0, .int .u8 0, .int .u8 0, .int .u8 0, .int .u8 0, .int .u8 0, .int .u8 0, .int .u8 0, .int .u8 0, .int .u8 0, .int .u8 0, .int .u8 0, .int .u8 0] 119)) wr.heap.size (rC 16 bk)).heap.size := by simp [World.setRow]
        have H2 := hid_in (HW.out.later B2.out)
        have hxg : wr.heap.size ≠ g := by have := (Array.getElem?_eq_some_iff.1 hhK).1; omega
        clear Z1 B1 HKW2 HW
        generalize (World.setRow _ wr.heap.size (rC 16 bk)) = W2 at *
        generalize wr.heap.size = gx at *
        have c0' := H2.out.box.c0
        have c1' := H2.out.box.c1
        have l1 := H2.out.box.lt
        have l2 := H2.out.ahd.lt
        have l3 := R2.out.lt
        try simp only [Act.put]
        refine wp_region_lat_tail (Below.refl _ _) (by kernel_rfl) (by dsimp only [List.dropLast]) (by exact rfl) (by kernel_rfl) ?_
        intro hne hcl
        repeat (first | (refine quiet_load_at aggC rfl (.tmp 4) rfl ⟨gc, 0, none⟩ rfl #[.pointer (some ⟨gt, 0, none⟩), .slice (some ⟨gk, 0, none⟩) 11 cap] rfl (fun w' hw' => by obtain ⟨l, rfl⟩ := hw'; exact (H2.out.box.later l.h).row) ?_; go_simp) | (refine quiet_load_at aggG rfl (.tmp 8) rfl ⟨gx, 0, none⟩ rfl (rC 16 bk) (rC_size _ _) (fun w' hw' => by obtain ⟨l, rfl⟩ := hw'; exact RB.row (RBlater R2.out l.h)) ?_; go_simp) | (refine quiet_load_at aggG rfl (.tmp 5) rfl ⟨ga, 0, none⟩ rfl (rC 16 ck) (rC_size _ _) (fun w' hw' => by obtain ⟨l, rfl⟩ := hw'; exact RB.row (RBlater H2.out.ahd l.h)) ?_; go_simp) | go_big_quiet_step (first | (go_at_call 101; exact lat_of (WE.out _)) | (go_at_call 143; exact lat_of (PE.out _ (RBlater H2.out.tab (Lat.h _)) (H2.out.keys.later (Lat.h _))))))
        refine wpQuiet_nil ?_
        intro w3 hb3
        clear hne hcl
        have H3 := hid_in (H2.out.later hb3)
        have R3 := RBlater R2.out hb3
        clear hb3 c0' c1' l1 l2 l3 H2 R2
        have T4 := hid_in (show World.there _ g (k * 16) (rC 16 ek).size by rw [rC_size]; exact H3.out.lst.there k HL.out)
        have SZ := hid_in (show (Tryz.prog.info? 119).map (·.size) = some (rC 16 ek).size by rw [rC_size]; exact sizeG)
        have RX := hid_in R3
        have hgx := hid_in hxg
        clear R3 hxg
        refine wpList_store_mid rfl 119 _ _ rfl g (k * 16) (rC 16 ek) rfl rfl T4.out SZ.out (rC_one _ _) ?_
        have H5 := hid_in (H3.out.setL (Nat.lt_of_le_of_lt (Nat.zero_le _) HL.out) k HL.out ek)
        have R5 : Hid (RB (World.setCells w3 g (k * 16) (rC 16 ek).toList) gx 16 119 bk) := by
          show _ = _
          rw [setCells_other hgx.out]; exact RX.out
        clear RX T4 H3
        generalize (World.setCells w3 g (k * 16) (rC 16 ek).toList) = W5 at *
        have A5 := hid_in H5.out.ahd
        have H6 := hid_in (H5.out.setA bk)
        have la := H5.out.ahd.lt
        have lx := R5.out.lt
        go_wp2_with (first | (refine wpList_load_row rfl 119 _ rfl gx rfl 119 _ (0, 0) _ R5.out Tryz.underlying119 rfl sizeG ?_) | (refine wpList_store_row rfl 119 _ _ rfl ga _ rfl rfl 119 _ A5.out sizeG rfl (rC_one _ _) ?_))
        refine ⟨⟨k + 1, HL.out, by simp, ?_⟩, by have := HL.out; simp [intOf]; omega⟩
        refine H6.out.congr (fun i hi j hj => ?_) (fun j hj => by rw [← BK.out]; rfl)
        rw [← TF.out, CE2.out]
        show (if i = k then cd (KS (bn s)) (bn t) (blk u) k else if i < k then cd (KS (bn s)) (bn t) (blk u) i else blk u i) j = (if i < k + 1 then cd (KS (bn s)) (bn t) (blk u) i else blk u i) j
        by_cases e : i = k
        · rw [if_pos e, if_pos (by omega), e]
        · by_cases e2 : i < k
          · rw [if_neg e, if_pos e2, if_pos (by omega)]
          · rw [if_neg e, if_neg e2, if_neg (by omega)]
      · have hk' : k = n := by omega
        have HK := hid_in hk'
        have q1 : ¬ (k : Int) < n := by omega
        have G := hid_in (HW.out.lst.congr (L := cd (KS (bn s)) (bn t) (blk u)) (fun i hi j hj => by show (if i < k then cd (KS (bn s)) (bn t) (blk u) i else blk u i) j = _; rw [if_pos (by omega)]))
        have hpre : n = 0 ∨ ∃ g, a = some ⟨g, 0, none⟩ ∧ KR wr g n (cd (KS (bn s)) (bn t) (blk u)) := by
          by_cases h0 : n = 0
          · exact .inl h0
          · obtain ⟨g, c1, cur, hu1, _, _, RL, _, _⟩ := G.out.row (by omega)
            have hu2 : a = some ⟨g, 0, none⟩ ∧ c0 = c1 := by simpa using hu1
            exact .inr ⟨g, hu2.1, RL⟩
        obtain ⟨gq, hpre2⟩ : ∃ g, n = 0 ∨ a = some ⟨g, 0, none⟩ ∧ KR wr g n (cd (KS (bn s)) (bn t) (blk u)) := by
          rcases hpre with h0 | ⟨g, h1⟩
          · exact ⟨0, .inl h0⟩
          · exact ⟨g, .inr h1⟩
        have HP := hid_in hpre2
        clear hpre hpre2 hk'
        go_wp2_with fail
        refine (gridsText_any a gq n c0 (cd (KS (bn s)) (bn t) (blk u)) _ (by omega) HP.out (fun i _ => cd_by hKb hfb hTb _)).mono ?_
        rintro e w6 ⟨rfl, hb6⟩
        go_wp2_with fail
        go_ret
        exact ⟨rfl, below_later HW.out.bel hb6⟩
  · have H0 : Below w.heap.size w w.drew := (Below.refl _ _).drew
    refine wp_region_held_drew (S := fun w' => Below w.heap.size w w') (by kernel_rfl) H0 (fun _ => ?_)
    refine wpAnyH_take (i := 0) (oi := { dst := some 9, op := Op.load 9 (Operand.tmp 0), type := 9, pos := "l6_aes.go:225", after := #[], guard := none }) (v := .string s) rfl (by kernel_rfl) (by kernel_rfl) (by kernel_rfl) (fun _ _ _ h => h) (Or.inl ⟨by rfl, ?_⟩) H0 ?_
    · intro w' hw
      have hc1 := (hw.cell (p := ⟨b, 0, none⟩) lb).trans hb
      go_simp
    try simp only [Act.put, List.setIfInBounds_toArray, List.set_cons_zero, List.set_cons_succ]
    refine wpAnyH_take (i := 2) (oi := { dst := some 11, op := Op.load 9 (Operand.tmp 1), type := 9, pos := "l6_aes.go:225", after := #[], guard := none }) (v := .string t) rfl (by kernel_rfl) (by kernel_rfl) (by kernel_rfl) (fun _ _ _ h => h) (Or.inl ⟨by rfl, ?_⟩) H0 ?_
    · intro w' hw
      have hc1 := (hw.cell (p := ⟨c, 0, none⟩) lc).trans hc
      go_simp
    try simp only [Act.put, List.setIfInBounds_toArray, List.set_cons_zero, List.set_cons_succ]
    refine wpAnyH_take (i := 4) (oi := { dst := some 13, op := Op.load 9 (Operand.tmp 2), type := 9, pos := "l6_aes.go:225", after := #[], guard := none }) (v := .string u) rfl (by kernel_rfl) (by kernel_rfl) (by kernel_rfl) (fun _ _ _ h => h) (Or.inl ⟨by rfl, ?_⟩) H0 ?_
    · intro w' hw
      have hc1 := (hw.cell (p := ⟨d, 0, none⟩) ld).trans hd
      go_simp
    try simp only [Act.put, List.setIfInBounds_toArray, List.set_cons_zero, List.set_cons_succ]
    refine wpAnyH_ready (rs := [1, 6, 7]) (by kernel_rfl) (by simp) ?_
    refine AllReadyH.cons (o := { dst := some 10, op := Op.call { callee := Callee.value (Operand.func 97), args := #[Operand.tmp 9], argTypes := #[9] }, type := 116, pos := "l6_aes.go:225", after := #[{ on := 0, ground := Ground.data }], guard := none }) rfl (fun K' hK' => ?_) ?_
    · go_simp
      refine (cipherOf_ok s _ hs).mono ?_
      rintro e w499 ⟨gt, gk, cap, rfl, Tw499, Kw499, HB500'⟩
      have HB500 := H0.trans (HB500'.mono H0.size)
      refine hK'.out _ _ HB500 (fun _ => ?_)
      clear hK' K'
      try simp only [Act.put, List.setIfInBounds_toArray, List.set_cons_zero, List.set_cons_succ]
      refine wpAnyH_ready (rs := [3, 6, 7]) (by kernel_rfl) (by simp) ?_
      refine AllReadyH.cons (o := { dst := some 12, op := Op.call { callee := Callee.value (Operand.func 98), args := #[Operand.tmp 11], argTypes := #[9] }, type := 119, pos := "l6_aes.go:225", after := #[{ on := 2, ground := Ground.data }, { on := 1, ground := Ground.chain }], guard := none }) rfl (fun K' hK' => ?_) ?_
      · go_simp
        refine (gridOf_ok t _ ht).mono ?_
        rintro e w501 ⟨rfl, HB502'⟩
        have HB502 := HB500.trans (HB502'.mono HB500.size)
        have Tw501 := RBlater Tw499 HB502'
        have Kw501 := Kw499.later HB502'
        refine hK'.out _ _ HB502 (fun _ => ?_)
        clear hK' K'
        try simp only [Act.put, List.setIfInBounds_toArray, List.set_cons_zero, List.set_cons_succ]
        refine wpAnyH_ready (rs := [5, 6, 7]) (by kernel_rfl) (by simp) ?_
        refine AllReadyH.cons (o := { dst := some 14, op := Op.call { callee := Callee.value (Operand.func 99), args := #[Operand.tmp 13], argTypes := #[9] }, type := 114, pos := "l6_aes.go:225", after := #[{ on := 4, ground := Ground.data }, { on := 3, ground := Ground.chain }], guard := none }) rfl (fun K' hK' => ?_) ?_
        · have kBw503 := Kw501.lt
          have wBw503 := HB502.size
          go_simp
          refine (gridsOf_ok u n _ hu hn).mono ?_
          rintro e w503 ⟨v, rfl, Lw503, HB504'⟩
          have HB504 := HB502.trans (HB504'.mono HB502.size)
          have Tw503 := RBlater Tw501 HB504'
          have Kw503 := Kw501.later HB504'
          refine hK'.out _ _ HB504 (fun _ => ?_)
          clear hK' K'
          try simp only [Act.put, List.setIfInBounds_toArray, List.set_cons_zero, List.set_cons_succ]
          refine wpAnyH_ready (rs := [6, 7]) (by kernel_rfl) (by simp) ?_
          refine AllReadyH.cons (o := { dst := some 4, op := Op.alloc 116, type := 0, pos := "l6_aes.go:225", after := #[], guard := none }) rfl (fun K' hK' => ?_) ?_
          · go_simp
            have HB506 := HB504.alloc HB504.size (.cells #[.pointer none, .slice none 0 0] 116)
            have cBx505 := HB504.size
            have Tx505 := RBlater Tw503 (below_box _ (.cells #[.pointer none, .slice none 0 0] 116))
            have Kx505 := Kw503.later (below_box _ (.cells #[.pointer none, .slice none 0 0] 116))
            have Lx505 := owns_below Lw503 (below_box _ (.cells #[.pointer none, .slice none 0 0] 116))
            have Zx505 := CZ.new w503
            refine hK'.out _ _ HB506 (fun _ => ?_)
            clear hK' K'
            try simp only [Act.put, List.setIfInBounds_toArray, List.set_cons_zero, List.set_cons_succ]
            refine wpAnyH_ready (rs := [7]) (by kernel_rfl) (by simp) ?_
            refine AllReadyH.cons (o := { dst := some 5, op := Op.alloc 119, type := 0, pos := "l6_aes.go:225", after := #[], guard := none }) rfl (fun K' hK' => ?_) AllReadyH.nil
            go_simp
            have HB508 := HB506.alloc HB506.size (.cells #[.int .u8 0, .int .u8 0, .int .u8 0, .int .u8 0, .int .u8 0, .int .u8 0, .int .u8 0, .int .u8 0, .int .u8 0, .int .u8 0, .int .u8 0, .int .u8 0, .int .u8 0, .int .u8 0, .int .u8 0, .int .u8 0] 119)
            have aBx507 := HB506.size
            have nex507 : ∀ g, v.ownBlock = some g → g ≠ (w503.alloc (.cells #[.pointer none, .slice none 0 0] 116)).heap.size := fun g hg => by have := (owns_own Lx505 g hg).2; omega
            have Tx507 := RBlater Tx505 (below_box _ (.cells #[.int .u8 0, .int .u8 0, .int .u8 0, .int .u8 0, .int .u8 0, .int .u8 0, .int .u8 0, .int .u8 0, .int .u8 0, .int .u8 0, .int .u8 0, .int .u8 0, .int .u8 0, .int .u8 0, .int .u8 0, .int .u8 0] 119))
            have Kx507 := Kx505.later (below_box _ (.cells #[.int .u8 0, .int .u8 0, .int .u8 0, .int .u8 0, .int .u8 0, .int .u8 0, .int .u8 0, .int .u8 0, .int .u8 0, .int .u8 0, .int .u8 0, .int .u8 0, .int .u8 0, .int .u8 0, .int .u8 0, .int .u8 0] 119))
            have Zx507 := Zx505.later (below_box _ (.cells #[.int .u8 0, .int .u8 0, .int .u8 0, .int .u8 0, .int .u8 0, .int .u8 0, .int .u8 0, .int .u8 0, .int .u8 0, .int .u8 0, .int .u8 0, .int .u8 0, .int .u8 0, .int .u8 0, .int .u8 0, .int .u8 0] 119))
            have Lx507 := owns_below Lx505 (below_box _ (.cells #[.int .u8 0, .int .u8 0, .int .u8 0, .int .u8 0, .int .u8 0, .int .u8 0, .int .u8 0, .int .u8 0, .int .u8 0, .int .u8 0, .int .u8 0, .int .u8 0, .int .u8 0, .int .u8 0, .int .u8 0, .int .u8 0] 119))
            have Rx507 : RB ((w503.alloc (.cells #[.pointer none, .slice none 0 0] 116)).alloc (.cells #[.int .u8 0, .int .u8 0, .int .u8 0, .int .u8 0, .int .u8 0, .int .u8 0, .int .u8 0, .int .u8 0, .int .u8 0, .int .u8 0, .int .u8 0, .int .u8 0, .int .u8 0, .int .u8 0, .int .u8 0, .int .u8 0] 119)) (w503.alloc (.cells #[.pointer none, .slice none 0 0] 116)).heap.size 16 119 (fun _ => 0) := by
              rw [zeroG]; exact RB.new (w503.alloc (.cells #[.pointer none, .slice none 0 0] 116)) 16 _ _
            have qx507 : (w503.alloc (.cells #[.pointer none, .slice none 0 0] 116)).heap.size = (w503.heap.size + 1) := by simp
            rw [qx507] at Rx507 aBx507
            rw [qx507] at nex507
            refine hK'.out _ _ HB508 (fun _ => ?_)
            clear hK' K'
            try simp only [Act.put, List.setIfInBounds_toArray, List.set_cons_zero, List.set_cons_succ]
            obtain ⟨HS509, HS509r⟩ := HS.start (cap := cap) HB508 Zx507 Tx507 Kx507 Rx507 Lx507 wBw503 kBw503 nex507 cBx505 aBx507
            refine wpAnyH_ready (rs := [8]) (by kernel_rfl) (by simp) ?_
            refine AllReadyH.cons (o := { dst := none, op := Op.store 116 (Operand.tmp 4) (Operand.tmp 10), type := 0, pos := "l6_aes.go:225", after := #[{ on := 6, ground := Ground.data }, { on := 1, ground := Ground.data }, { on := 5, ground := Ground.chain }, { on := 0, ground := Ground.phase }, { on := 1, ground := Ground.phase }, { on := 2, ground := Ground.textOnly Departure.lateStores }, { on := 3, ground := Ground.textOnly Departure.lateStoresUnsure }, { on := 4, ground := Ground.textOnly Departure.lateStores }, { on := 5, ground := Ground.textOnly Departure.lateStoresUnsure }, { on := 6, ground := Ground.phase }, { on := 7, ground := Ground.phase }], guard := none }) rfl (fun K' hK' => ?_) AllReadyH.nil
            rw [if_pos (by rfl)]
            refine wp_store_row 116 _ _ rfl _ #[.pointer (some ⟨gt, 0, none⟩), .slice (some ⟨gk, 0, none⟩) 11 cap] rfl rfl 116 _ Zx507 sizeC rfl (oneC _ _ _ _) ?_
            refine hK'.out _ _ HS509.bel (fun _ => ?_)
            clear hK' K'
            try simp only [Act.put, List.setIfInBounds_toArray, List.set_cons_zero, List.set_cons_succ]
            refine wpAnyH_ready (rs := [9]) (by kernel_rfl) (by simp) ?_
            refine AllReadyH.cons (o := { dst := none, op := Op.store 119 (Operand.tmp 5) (Operand.tmp 12), type := 0, pos := "l6_aes.go:225", after := #[{ on := 7, ground := Ground.data }, { on := 3, ground := Ground.data }, { on := 8, ground := Ground.chain }, { on := 0, ground := Ground.phase }, { on := 1, ground := Ground.phase }, { on := 2, ground := Ground.phase }, { on := 3, ground := Ground.phase }, { on := 4, ground := Ground.textOnly Departure.lateStores }, { on := 5, ground := Ground.textOnly Departure.lateStoresUnsure }, { on := 6, ground := Ground.phase }, { on := 7, ground := Ground.phase }, { on := 8, ground := Ground.phase }], guard := none }) rfl (fun K' hK' => ?_) AllReadyH.nil
            rw [if_pos (by rfl)]
            refine wp_store_row 119 _ _ rfl _ (rC 16 (bn t)) rfl rfl 119 _ HS509r sizeG rfl (rC_one _ _) ?_
            have HS509a := HS509.setA (bn t)
            refine hK'.out _ _ HS509a.bel (fun _ => ?_)
            clear hK' K'
            try simp only [Act.put, List.setIfInBounds_toArray, List.set_cons_zero, List.set_cons_succ]
            refine wpAnyH_ready (rs := [10]) (by kernel_rfl) (by simp) ?_
            refine AllReadyH.cons (o := { dst := some 6, op := Op.assign (Operand.tmp 14), type := 114, pos := "l6_aes.go:225", after := #[{ on := 5, ground := Ground.data }, { on := 9, ground := Ground.chain }, { on := 0, ground := Ground.phase }, { on := 1, ground := Ground.phase }, { on := 2, ground := Ground.phase }, { on := 3, ground := Ground.phase }, { on := 4, ground := Ground.phase }, { on := 5, ground := Ground.phase }, { on := 6, ground := Ground.phase }, { on := 7, ground := Ground.phase }, { on := 8, ground := Ground.phase }, { on := 9, ground := Ground.phase }], guard := none }) rfl (fun K' hK' => ?_) AllReadyH.nil
            go_simp
            refine hK'.out _ _ HS509a.bel (fun _ => ?_)
            clear hK' K'
            try simp only [Act.put, List.setIfInBounds_toArray, List.set_cons_zero, List.set_cons_succ]
            refine wpAnyH_done (by kernel_rfl) ?_ _
            exact ⟨_, gt, gk, cap, _, v, _, rfl, HS509a⟩
          refine AllReadyH.cons (o := { dst := some 5, op := Op.alloc 119, type := 0, pos := "l6_aes.go:225", after := #[], guard := none }) rfl (fun K' hK' => ?_) AllReadyH.nil
          go_simp
          have HB511 := HB504.alloc HB504.size (.cells #[.int .u8 0, .int .u8 0, .int .u8 0, .int .u8 0, .int .u8 0, .int .u8 0, .int .u8 0, .int .u8 0, .int .u8 0, .int .u8 0, .int .u8 0, .int .u8 0, .int .u8 0, .int .u8 0, .int .u8 0, .int .u8 0] 119)
          have aBx510 := HB504.size
          have nex510 : ∀ g, v.ownBlock = some g → g ≠ w503.heap.size := fun g hg => by have := (owns_own Lw503 g hg).2; omega
          have Tx510 := RBlater Tw503 (below_box _ (.cells #[.int .u8 0, .int .u8 0, .int .u8 0, .int .u8 0, .int .u8 0, .int .u8 0, .int .u8 0, .int .u8 0, .int .u8 0, .int .u8 0, .int .u8 0, .int .u8 0, .int .u8 0, .int .u8 0, .int .u8 0, .int .u8 0] 119))
          have Kx510 := Kw503.later (below_box _ (.cells #[.int .u8 0, .int .u8 0, .int .u8 0, .int .u8 0, .int .u8 0, .int .u8 0, .int .u8 0, .int .u8 0, .int .u8 0, .int .u8 0, .int .u8 0, .int .u8 0, .int .u8 0, .int .u8 0, .int .u8 0, .int .u8 0] 119))
          have Lx510 := owns_below Lw503 (below_box _ (.cells #[.int .u8 0, .int .u8 0, .int .u8 0, .int .u8 0, .int .u8 0, .int .u8 0, .int .u8 0, .int .u8 0, .int .u8 0, .int .u8 0, .int .u8 0, .int .u8 0, .int .u8 0, .int .u8 0, .int .u8 0, .int .u8 0] 119))
          have Rx510 : RB (w503.alloc (.cells #[.int .u8 0, .int .u8 0, .int .u8 0, .int .u8 0, .int .u8 0, .int .u8 0, .int .u8 0, .int .u8 0, .int .u8 0, .int .u8 0, .int .u8 0, .int .u8 0, .int .u8 0, .int .u8 0, .int .u8 0, .int .u8 0] 119)) w503.heap.size 16 119 (fun _ => 0) := by
            rw [zeroG]; exact RB.new w503 16 _ _
          refine hK'.out _ _ HB511 (fun _ => ?_)
          clear hK' K'
          try simp only [Act.put, List.setIfInBounds_toArray, List.set_cons_zero, List.set_cons_succ]
          refine wpAnyH_ready (rs := [6]) (by kernel_rfl) (by simp) ?_
          refine AllReadyH.cons (o := { dst := some 4, op := Op.alloc 116, type := 0, pos := "l6_aes.go:225", after := #[], guard := none }) rfl (fun K' hK' => ?_) AllReadyH.nil
          go_simp
          have HB513 := HB511.alloc HB511.size (.cells #[.pointer none, .slice none 0 0] 116)
          have cBx512 := HB511.size
          have Tx512 := RBlater Tx510 (below_box _ (.cells #[.pointer none, .slice none 0 0] 116))
          have Kx512 := Kx510.later (below_box _ (.cells #[.pointer none, .slice none 0 0] 116))
          have Rx512 := RBlater Rx510 (below_box _ (.cells #[.pointer none, .slice none 0 0] 116))
          have Lx512 := owns_below Lx510 (below_box _ (.cells #[.pointer none, .slice none 0 0] 116))
          have qx512 : (w503.alloc (.cells #[.int .u8 0, .int .u8 0, .int .u8 0, .int .u8 0, .int .u8 0, .int .u8 0, .int .u8 0, .int .u8 0, .int .u8 0, .int .u8 0, .int .u8 0, .int .u8 0, .int .u8 0, .int .u8 0, .int .u8 0, .int .u8 0] 119)).heap.size = (w503.heap.size + 1) := by simp
          have Zx512 : CZ ((w503.alloc (.cells #[.int .u8 0, .int .u8 0, .int .u8 0, .int .u8 0, .int .u8 0, .int .u8 0, .int .u8 0, .int .u8 0, .int .u8 0, .int .u8 0, .int .u8 0, .int .u8 0, .int .u8 0, .int .u8 0, .int .u8 0, .int .u8 0] 119)).alloc (.cells #[.pointer none, .slice none 0 0] 116)) (w503.heap.size + 1) := by have := CZ.new (w503.alloc (.cells #[.int .u8 0, .int .u8 0, .int .u8 0, .int .u8 0, .int .u8 0, .int .u8 0, .int .u8 0, .int .u8 0, .int .u8 0, .int .u8 0, .int .u8 0, .int .u8 0, .int .u8 0, .int .u8 0, .int .u8 0, .int .u8 0] 119)); rw [qx512] at this; exact this
          rw [qx512] at cBx512
          refine hK'.out _ _ HB513 (fun _ => ?_)
          clear hK' K'
          try simp only [Act.put, List.setIfInBounds_toArray, List.set_cons_zero, List.set_cons_succ]
          obtain ⟨HS514, HS514r⟩ := HS.start (cap := cap) HB513 Zx512 Tx512 Kx512 Rx512 Lx512 wBw503 kBw503 nex510 cBx512 aBx510
          refine wpAnyH_ready (rs := [8]) (by kernel_rfl) (by simp) ?_
          refine AllReadyH.cons (o := { dst := none, op := Op.store 116 (Operand.tmp 4) (Operand.tmp 10), type := 0, pos := "l6_aes.go:225", after := #[{ on := 6, ground := Ground.data }, { on := 1, ground := Ground.data }, { on := 5, ground := Ground.chain }, { on := 0, ground := Ground.phase }, { on := 1, ground := Ground.phase }, { on := 2, ground := Ground.textOnly Departure.lateStores }, { on := 3, ground := Ground.textOnly Departure.lateStoresUnsure }, { on := 4, ground := Ground.textOnly Departure.lateStores }, { on := 5, ground := Ground.textOnly Departure.lateStoresUnsure }, { on := 6, ground := Ground.phase }, { on := 7, ground := Ground.phase }], guard := none }) rfl (fun K' hK' => ?_) AllReadyH.nil
          rw [if_pos (by rfl)]
          refine wp_store_row 116 _ _ rfl _ #[.pointer (some ⟨gt, 0, none⟩), .slice (some ⟨gk, 0, none⟩) 11 cap] rfl rfl 116 _ Zx512 sizeC rfl (oneC _ _ _ _) ?_
          refine hK'.out _ _ HS514.bel (fun _ => ?_)
          clear hK' K'
          try simp only [Act.put, List.setIfInBounds_toArray, List.set_cons_zero, List.set_cons_succ]
          refine wpAnyH_ready (rs := [9]) (by kernel_rfl) (by simp) ?_
          refine AllReadyH.cons (o := { dst := none, op := Op.store 119 (Operand.tmp 5) (Operand.tmp 12), type := 0, pos := "l6_aes.go:225", after := #[{ on := 7, ground := Ground.data }, { on := 3, ground := Ground.data }, { on := 8, ground := Ground.chain }, { on := 0, ground := Ground.phase }, { on := 1, ground := Ground.phase }, { on := 2, ground := Ground.phase }, { on := 3, ground := Ground.phase }, { on := 4, ground := Ground.textOnly Departure.lateStores }, { on := 5, ground := Ground.textOnly Departure.lateStoresUnsure }, { on := 6, ground := Ground.phase }, { on := 7, ground := Ground.phase }, { on := 8, ground := Ground.phase }], guard := none }) rfl (fun K' hK' => ?_) AllReadyH.nil
          rw [if_pos (by rfl)]
          refine wp_store_row 119 _ _ rfl _ (rC 16 (bn t)) rfl rfl 119 _ HS514r sizeG rfl (rC_one _ _) ?_
          have HS514a := HS514.setA (bn t)
          refine hK'.out _ _ HS514a.bel (fun _ => ?_)
          clear hK' K'
          try simp only [Act.put, List.setIfInBounds_toArray, List.set_cons_zero, List.set_cons_succ]
          refine wpAnyH_ready (rs := [10]) (by kernel_rfl) (by simp) ?_
          refine AllReadyH.cons (o := { dst := some 6, op := Op.assign (Operand.tmp 14), type := 114, pos := "l6_aes.go:225", after := #[{ on := 5, ground := Ground.data }, { on := 9, ground := Ground.chain }, { on := 0, ground := Ground.phase }, { on := 1, ground := Ground.phase }, { on := 2, ground := Ground.phase }, { on := 3, ground := Ground.phase }, { on := 4, ground := Ground.phase }, { on := 5, ground := Ground.phase }, { on := 6, ground := Ground.phase }, { on := 7, ground := Ground.phase }, { on := 8, ground := Ground.phase }, { on := 9, ground := Ground.phase }], guard := none }) rfl (fun K' hK' => ?_) AllReadyH.nil
          go_simp
          refine hK'.out _ _ HS514a.bel (fun _ => ?_)
          clear hK' K'
          try simp only [Act.put, List.setIfInBounds_toArray, List.set_cons_zero, List.set_cons_succ]
          refine wpAnyH_done (by kernel_rfl) ?_ _
          exact ⟨_, gt, gk, cap, _, v, _, rfl, HS514a⟩
        refine AllReadyH.cons (o := { dst := some 4, op := Op.alloc 116, type := 0, pos := "l6_aes.go:225", after := #[], guard := none }) rfl (fun K' hK' => ?_) ?_
        · go_simp
          have HB516 := HB502.alloc HB502.size (.cells #[.pointer none, .slice none 0 0] 116)
          have cBx515 := HB502.size
          have Tx515 := RBlater Tw501 (below_box _ (.cells #[.pointer none, .slice none 0 0] 116))
          have Kx515 := Kw501.later (below_box _ (.cells #[.pointer none, .slice none 0 0] 116))
          have Zx515 := CZ.new w501
          refine hK'.out _ _ HB516 (fun _ => ?_)
          clear hK' K'
          try simp only [Act.put, List.setIfInBounds_toArray, List.set_cons_zero, List.set_cons_succ]
          refine wpAnyH_ready (rs := [5, 7]) (by kernel_rfl) (by simp) ?_
          refine AllReadyH.cons (o := { dst := some 14, op := Op.call { callee := Callee.value (Operand.func 99), args := #[Operand.tmp 13], argTypes := #[9] }, type := 114, pos := "l6_aes.go:225", after := #[{ on := 4, ground := Ground.data }, { on := 3, ground := Ground.chain }], guard := none }) rfl (fun K' hK' => ?_) ?_
          · have kBw517 := Kx515.lt
            have wBw517 := HB516.size
            go_simp
            refine (gridsOf_ok u n _ hu hn).mono ?_
            rintro e w517 ⟨v, rfl, Lw517, HB518'⟩
            have HB518 := HB516.trans (HB518'.mono HB516.size)
            have Tw517 := RBlater Tx515 HB518'
            have Kw517 := Kx515.later HB518'
            have Zw517 := Zx515.later HB518'
            refine hK'.out _ _ HB518 (fun _ => ?_)
            clear hK' K'
            try simp only [Act.put, List.setIfInBounds_toArray, List.set_cons_zero, List.set_cons_succ]
            refine wpAnyH_ready (rs := [7]) (by kernel_rfl) (by simp) ?_
            refine AllReadyH.cons (o := { dst := some 5, op := Op.alloc 119, type := 0, pos := "l6_aes.go:225", after := #[], guard := none }) rfl (fun K' hK' => ?_) AllReadyH.nil
            go_simp
            have HB520 := HB518.alloc HB518.size (.cells #[.int .u8 0, .int .u8 0, .int .u8 0, .int .u8 0, .int .u8 0, .int .u8 0, .int .u8 0, .int .u8 0, .int .u8 0, .int .u8 0, .int .u8 0, .int .u8 0, .int .u8 0, .int .u8 0, .int .u8 0, .int .u8 0] 119)
            have aBx519 := HB518.size
            have nex519 : ∀ g, v.ownBlock = some g → g ≠ w517.heap.size := fun g hg => by have := (owns_own Lw517 g hg).2; omega
            have Tx519 := RBlater Tw517 (below_box _ (.cells #[.int .u8 0, .int .u8 0, .int .u8 0, .int .u8 0, .int .u8 0, .int .u8 0, .int .u8 0, .int .u8 0, .int .u8 0, .int .u8 0, .int .u8 0, .int .u8 0, .int .u8 0, .int .u8 0, .int .u8 0, .int .u8 0] 119))
            have Kx519 := Kw517.later (below_box _ (.cells #[.int .u8 0, .int .u8 0, .int .u8 0, .int .u8 0, .int .u8 0, .int .u8 0, .int .u8 0, .int .u8 0, .int .u8 0, .int .u8 0, .int .u8 0, .int .u8 0, .int .u8 0, .int .u8 0, .int .u8 0, .int .u8 0] 119))
            have Zx519 := Zw517.later (below_box _ (.cells #[.int .u8 0, .int .u8 0, .int .u8 0, .int .u8 0, .int .u8 0, .int .u8 0, .int .u8 0, .int .u8 0, .int .u8 0, .int .u8 0, .int .u8 0, .int .u8 0, .int .u8 0, .int .u8 0, .int .u8 0, .int .u8 0] 119))
            have Lx519 := owns_below Lw517 (below_box _ (.cells #[.int .u8 0, .int .u8 0, .int .u8 0, .int .u8 0, .int .u8 0, .int .u8 0, .int .u8 0, .int .u8 0, .int .u8 0, .int .u8 0, .int .u8 0, .int .u8 0, .int .u8 0, .int .u8 0, .int .u8 0, .int .u8 0] 119))
            have Rx519 : RB (w517.alloc (.cells #[.int .u8 0, .int .u8 0, .int .u8 0, .int .u8 0, .int .u8 0, .int .u8 0, .int .u8 0, .int .u8 0, .int .u8 0, .int .u8 0, .int .u8 0, .int .u8 0, .int .u8 0, .int .u8 0, .int .u8 0, .int .u8 0] 119)) w517.heap.size 16 119 (fun _ => 0) := by
              rw [zeroG]; exact RB.new w517 16 _ _
            refine hK'.out _ _ HB520 (fun _ => ?_)
            clear hK' K'
            try simp only [Act.put, List.setIfInBounds_toArray, List.set_cons_zero, List.set_cons_succ]
            obtain ⟨HS521, HS521r⟩ := HS.start (cap := cap) HB520 Zx519 Tx519 Kx519 Rx519 Lx519 wBw517 kBw517 nex519 cBx515 aBx519
            refine wpAnyH_ready (rs := [8]) (by kernel_rfl) (by simp) ?_
            refine AllReadyH.cons (o := { dst := none, op := Op.store 116 (Operand.tmp 4) (Operand.tmp 10), type := 0, pos := "l6_aes.go:225", after := #[{ on := 6, ground := Ground.data }, { on := 1, ground := Ground.data }, { on := 5, ground := Ground.chain }, { on := 0, ground := Ground.phase }, { on := 1, ground := Ground.phase }, { on := 2, ground := Ground.textOnly Departure.lateStores }, { on := 3, ground := Ground.textOnly Departure.lateStoresUnsure }, { on := 4, ground := Ground.textOnly Departure.lateStores }, { on := 5, ground := Ground.textOnly Departure.lateStoresUnsure }, { on := 6, ground := Ground.phase }, { on := 7, ground := Ground.phase }], guard := none }) rfl (fun K' hK' => ?_) AllReadyH.nil
            rw [if_pos (by rfl)]
            refine wp_store_row 116 _ _ rfl _ #[.pointer (some ⟨gt, 0, none⟩), .slice (some ⟨gk, 0, none⟩) 11 cap] rfl rfl 116 _ Zx519 sizeC rfl (oneC _ _ _ _) ?_
            refine hK'.out _ _ HS521.bel (fun _ => ?_)
            clear hK' K'
            try simp only [Act.put, List.setIfInBounds_toArray, List.set_cons_zero, List.set_cons_succ]
            refine wpAnyH_ready (rs := [9]) (by kernel_rfl) (by simp) ?_
            refine AllReadyH.cons (o := { dst := none, op := Op.store 119 (Operand.tmp 5) (Operand.tmp 12), type := 0, pos := "l6_aes.go:225", after := #[{ on := 7, ground := Ground.data }, { on := 3, ground := Ground.data }, { on := 8, ground := Ground.chain }, { on := 0, ground := Ground.phase }, { on := 1, ground := Ground.phase }, { on := 2, ground := Ground.phase }, { on := 3, ground := Ground.phase }, { on := 4, ground := Ground.textOnly Departure.lateStores }, { on := 5, ground := Ground.textOnly Departure.lateStoresUnsure }, { on := 6, ground := Ground.phase }, { on := 7, ground := Ground.phase }, { on := 8, ground := Ground.phase }], guard := none }) rfl (fun K' hK' => ?_) AllReadyH.nil
            rw [if_pos (by rfl)]
            refine wp_store_row 119 _ _ rfl _ (rC 16 (bn t)) rfl rfl 119 _ HS521r sizeG rfl (rC_one _ _) ?_
            have HS521a := HS521.setA (bn t)
            refine hK'.out _ _ HS521a.bel (fun _ => ?_)
            clear hK' K'
            try simp only [Act.put, List.setIfInBounds_toArray, List.set_cons_zero, List.set_cons_succ]
            refine wpAnyH_ready (rs := [10]) (by kernel_rfl) (by simp) ?_
            refine AllReadyH.cons (o := { dst := some 6, op := Op.assign (Operand.tmp 14), type := 114, pos := "l6_aes.go:225", after := #[{ on := 5, ground := Ground.data }, { on := 9, ground := Ground.chain }, { on := 0, ground := Ground.phase }, { on := 1, ground := Ground.phase }, { on := 2, ground := Ground.phase }, { on := 3, ground := Ground.phase }, { on := 4, ground := Ground.phase }, { on := 5, ground := Ground.phase }, { on := 6, ground := Ground.phase }, { on := 7, ground := Ground.phase }, { on := 8, ground := Ground.phase }, { on := 9, ground := Ground.phase }], guard := none }) rfl (fun K' hK' => ?_) AllReadyH.nil
            go_simp
            refine hK'.out _ _ HS521a.bel (fun _ => ?_)
            clear hK' K'
            try simp only [Act.put, List.setIfInBounds_toArray, List.set_cons_zero, List.set_cons_succ]
            refine wpAnyH_done (by kernel_rfl) ?_ _
            exact ⟨_, gt, gk, cap, _, v, _, rfl, HS521a⟩
          refine AllReadyH.cons (o := { dst := some 5, op := Op.alloc 119, type := 0, pos := "l6_aes.go:225", after := #[], guard := none }) rfl (fun K' hK' => ?_) AllReadyH.nil
          go_simp
          have HB523 := HB516.alloc HB516.size (.cells #[.int .u8 0, .int .u8 0, .int .u8 0, .int .u8 0, .int .u8 0, .int .u8 0, .int .u8 0, .int .u8 0, .int .u8 0, .int .u8 0, .int .u8 0, .int .u8 0, .int .u8 0, .int .u8 0, .int .u8 0, .int .u8 0] 119)
          have aBx522 := HB516.size
          have Tx522 := RBlater Tx515 (below_box _ (.cells #[.int .u8 0, .int .u8 0, .int .u8 0, .int .u8 0, .int .u8 0, .int .u8 0, .int .u8 0, .int .u8 0, .int .u8 0, .int .u8 0, .int .u8 0, .int .u8 0, .int .u8 0, .int .u8 0, .int .u8 0, .int .u8 0] 119))
          have Kx522 := Kx515.later (below_box _ (.cells #[.int .u8 0, .int .u8 0, .int .u8 0, .int .u8 0, .int .u8 0, .int .u8 0, .int .u8 0, .int .u8 0, .int .u8 0, .int .u8 0, .int .u8 0, .int .u8 0, .int .u8 0, .int .u8 0, .int .u8 0, .int .u8 0] 119))
          have Zx522 := Zx515.later (below_box _ (.cells #[.int .u8 0, .int .u8 0, .int .u8 0, .int .u8 0, .int .u8 0, .int .u8 0, .int .u8 0, .int .u8 0, .int .u8 0, .int .u8 0, .int .u8 0, .int .u8 0, .int .u8 0, .int .u8 0, .int .u8 0, .int .u8 0] 119))
          have Rx522 : RB ((w501.alloc (.cells #[.pointer none, .slice none 0 0] 116)).alloc (.cells #[.int .u8 0, .int .u8 0, .int .u8 0, .int .u8 0, .int .u8 0, .int .u8 0, .int .u8 0, .int .u8 0, .int .u8 0, .int .u8 0, .int .u8 0, .int .u8 0, .int .u8 0, .int .u8 0, .int .u8 0, .int .u8 0] 119)) (w501.alloc (.cells #[.pointer none, .slice none 0 0] 116)).heap.size 16 119 (fun _ => 0) := by
            rw [zeroG]; exact RB.new (w501.alloc (.cells #[.pointer none, .slice none 0 0] 116)) 16 _ _
          have qx522 : (w501.alloc (.cells #[.pointer none, .slice none 0 0] 116)).heap.size = (w501.heap.size + 1) := by simp
          rw [qx522] at Rx522 aBx522
          refine hK'.out _ _ HB523 (fun _ => ?_)
          clear hK' K'
          try simp only [Act.put, List.setIfInBounds_toArray, List.set_cons_zero, List.set_cons_succ]
          refine wpAnyH_ready (rs := [5]) (by kernel_rfl) (by simp) ?_
          refine AllReadyH.cons (o := { dst := some 14, op := Op.call { callee := Callee.value (Operand.func 99), args := #[Operand.tmp 13], argTypes := #[9] }, type := 114, pos := "l6_aes.go:225", after := #[{ on := 4, ground := Ground.data }, { on := 3, ground := Ground.chain }], guard := none }) rfl (fun K' hK' => ?_) AllReadyH.nil
          have kBw524 := Kx522.lt
          have aLw524 := Rx522.lt
          have wBw524 := HB523.size
          go_simp
          refine (gridsOf_ok u n _ hu hn).mono ?_
          rintro e w524 ⟨v, rfl, Lw524, HB525'⟩
          have HB525 := HB523.trans (HB525'.mono HB523.size)
          have new524 : ∀ g, v.ownBlock = some g → g ≠ (w501.heap.size + 1) := fun g hg => by have := (owns_own Lw524 g hg).1; omega
          have Tw524 := RBlater Tx522 HB525'
          have Kw524 := Kx522.later HB525'
          have Rw524 := RBlater Rx522 HB525'
          have Zw524 := Zx522.later HB525'
          refine hK'.out _ _ HB525 (fun _ => ?_)
          clear hK' K'
          try simp only [Act.put, List.setIfInBounds_toArray, List.set_cons_zero, List.set_cons_succ]
          obtain ⟨HS526, HS526r⟩ := HS.start (cap := cap) HB525 Zw524 Tw524 Kw524 Rw524 Lw524 wBw524 kBw524 new524 cBx515 aBx522
          refine wpAnyH_ready (rs := [8]) (by kernel_rfl) (by simp) ?_
          refine AllReadyH.cons (o := { dst := none, op := Op.store 116 (Operand.tmp 4) (Operand.tmp 10), type := 0, pos := "l6_aes.go:225", after := #[{ on := 6, ground := Ground.data }, { on := 1, ground := Ground.data }, { on := 5, ground := Ground.chain }, { on := 0, ground := Ground.phase }, { on := 1, ground := Ground.phase }, { on := 2, ground := Ground.textOnly Departure.lateStores }, { on := 3, ground := Ground.textOnly Departure.lateStoresUnsure }, { on := 4, ground := Ground.textOnly Departure.lateStores }, { on := 5, ground := Ground.textOnly Departure.lateStoresUnsure }, { on := 6, ground := Ground.phase }, { on := 7, ground := Ground.phase }], guard := none }) rfl (fun K' hK' => ?_) AllReadyH.nil
          rw [if_pos (by rfl)]
          refine wp_store_row 116 _ _ rfl _ #[.pointer (some ⟨gt, 0, none⟩), .slice (some ⟨gk, 0, none⟩) 11 cap] rfl rfl 116 _ Zw524 sizeC rfl (oneC _ _ _ _) ?_
          refine hK'.out _ _ HS526.bel (fun _ => ?_)
          clear hK' K'
          try simp only [Act.put, List.setIfInBounds_toArray, List.set_cons_zero, List.set_cons_succ]
          refine wpAnyH_ready (rs := [9]) (by kernel_rfl) (by simp) ?_
          refine AllReadyH.cons (o := { dst := none, op := Op.store 119 (Operand.tmp 5) (Operand.tmp 12), type := 0, pos := "l6_aes.go:225", after := #[{ on := 7, ground := Ground.data }, { on := 3, ground := Ground.data }, { on := 8, ground := Ground.chain }, { on := 0, ground := Ground.phase }, { on := 1, ground := Ground.phase }, { on := 2, ground := Ground.phase }, { on := 3, ground := Ground.phase }, { on := 4, ground := Ground.textOnly Departure.lateStores }, { on := 5, ground := Ground.textOnly Departure.lateStoresUnsure }, { on := 6, ground := Ground.phase }, { on := 7, ground := Ground.phase }, { on := 8, ground := Ground.phase }], guard := none }) rfl (fun K' hK' => ?_) AllReadyH.nil
          rw [if_pos (by rfl)]
          refine wp_store_row 119 _ _ rfl _ (rC 16 (bn t)) rfl rfl 119 _ HS526r sizeG rfl (rC_one _ _) ?_
          have HS526a := HS526.setA (bn t)
          refine hK'.out _ _ HS526a.bel (fun _ => ?_)
          clear hK' K'
          try simp only [Act.put, List.setIfInBounds_toArray, List.set_cons_zero, List.set_cons_succ]
          refine wpAnyH_ready (rs := [10]) (by kernel_rfl) (by simp) ?_
          refine AllReadyH.cons (o := { dst := some 6, op := Op.assign (Operand.tmp 14), type := 114, pos := "l6_aes.go:225", after := #[{ on := 5, ground := Ground.data }, { on := 9, ground := Ground.chain }, { on := 0, ground := Ground.phase }, { on := 1, ground := Ground.phase }, { on := 2, ground := Ground.phase }, { on := 3, ground := Ground.phase }, { on := 4, ground := Ground.phase }, { on := 5, ground := Ground.phase }, { on := 6, ground := Ground.phase }, { on := 7, ground := Ground.phase }, { on := 8, ground := Ground.phase }, { on := 9, ground := Ground.phase }], guard := none }) rfl (fun K' hK' => ?_) AllReadyH.nil
          go_simp
          refine hK'.out _ _ HS526a.bel (fun _ => ?_)
          clear hK' K'
          try simp only [Act.put, List.setIfInBounds_toArray, List.set_cons_zero, List.set_cons_succ]
          refine wpAnyH_done (by kernel_rfl) ?_ _
          exact ⟨_, gt, gk, cap, _, v, _, rfl, HS526a⟩
        refine AllReadyH.cons (o := { dst := some 5, op := Op.alloc 119, type := 0, pos := "l6_aes.go:225", after := #[], guard := none }) rfl (fun K' hK' => ?_) AllReadyH.nil
        go_simp
        have HB528 := HB502.alloc HB502.size (.cells #[.int .u8 0, .int .u8 0, .int .u8 0, .int .u8 0, .int .u8 0, .int .u8 0, .int .u8 0, .int .u8 0, .int .u8 0, .int .u8 0, .int .u8 0, .int .u8 0, .int .u8 0, .int .u8 0, .int .u8 0, .int .u8 0] 119)
        have aBx527 := HB502.size
        have Tx527 := RBlater Tw501 (below_box _ (.cells #[.int .u8 0, .int .u8 0, .int .u8 0, .int .u8 0, .int .u8 0, .int .u8 0, .int .u8 0, .int .u8 0, .int .u8 0, .int .u8 0, .int .u8 0, .int .u8 0, .int .u8 0, .int .u8 0, .int .u8 0, .int .u8 0] 119))
        have Kx527 := Kw501.later (below_box _ (.cells #[.int .u8 0, .int .u8 0, .int .u8 0, .int .u8 0, .int .u8 0, .int .u8 0, .int .u8 0, .int .u8 0, .int .u8 0, .int .u8 0, .int .u8 0, .int .u8 0, .int .u8 0, .int .u8 0, .int .u8 0, .int .u8 0] 119))
        have Rx527 : RB (w501.alloc (.cells #[.int .u8 0, .int .u8 0, .int .u8 0, .int .u8 0, .int .u8 0, .int .u8 0, .int .u8 0, .int .u8 0, .int .u8 0, .int .u8 0, .int .u8 0, .int .u8 0, .int .u8 0, .int .u8 0, .int .u8 0, .int .u8 0] 119)) w501.heap.size 16 119 (fun _ => 0) := by
          rw [zeroG]; exact RB.new w501 16 _ _
        refine hK'.out _ _ HB528 (fun _ => ?_)
        clear hK' K'
        try simp only [Act.put, List.setIfInBounds_toArray, List.set_cons_zero, List.set_cons_succ]
        refine wpAnyH_ready (rs := [5, 6]) (by kernel_rfl) (by simp) ?_
        refine AllReadyH.cons (o := { dst := some 14, op := Op.call { callee := Callee.value (Operand.func 99), args := #[Operand.tmp 13], argTypes := #[9] }, type := 114, pos := "l6_aes.go:225", after := #[{ on := 4, ground := Ground.data }, { on := 3, ground := Ground.chain }], guard := none }) rfl (fun K' hK' => ?_) ?_
        · have kBw529 := Kx527.lt
          have aLw529 := Rx527.lt
          have wBw529 := HB528.size
          go_simp
          refine (gridsOf_ok u n _ hu hn).mono ?_
          rintro e w529 ⟨v, rfl, Lw529, HB530'⟩
          have HB530 := HB528.trans (HB530'.mono HB528.size)
          have new529 : ∀ g, v.ownBlock = some g → g ≠ w501.heap.size := fun g hg => by have := (owns_own Lw529 g hg).1; omega
          have Tw529 := RBlater Tx527 HB530'
          have Kw529 := Kx527.later HB530'
          have Rw529 := RBlater Rx527 HB530'
          refine hK'.out _ _ HB530 (fun _ => ?_)
          clear hK' K'
          try simp only [Act.put, List.setIfInBounds_toArray, List.set_cons_zero, List.set_cons_succ]
          refine wpAnyH_ready (rs := [6]) (by kernel_rfl) (by simp) ?_
          refine AllReadyH.cons (o := { dst := some 4, op := Op.alloc 116, type := 0, pos := "l6_aes.go:225", after := #[], guard := none }) rfl (fun K' hK' => ?_) AllReadyH.nil
          go_simp
          have HB532 := HB530.alloc HB530.size (.cells #[.pointer none, .slice none 0 0] 116)
          have cBx531 := HB530.size
          have Tx531 := RBlater Tw529 (below_box _ (.cells #[.pointer none, .slice none 0 0] 116))
          have Kx531 := Kw529.later (below_box _ (.cells #[.pointer none, .slice none 0 0] 116))
          have Rx531 := RBlater Rw529 (below_box _ (.cells #[.pointer none, .slice none 0 0] 116))
          have Lx531 := owns_below Lw529 (below_box _ (.cells #[.pointer none, .slice none 0 0] 116))
          have Zx531 := CZ.new w529
          refine hK'.out _ _ HB532 (fun _ => ?_)
          clear hK' K'
          try simp only [Act.put, List.setIfInBounds_toArray, List.set_cons_zero, List.set_cons_succ]
          obtain ⟨HS533, HS533r⟩ := HS.start (cap := cap) HB532 Zx531 Tx531 Kx531 Rx531 Lx531 wBw529 kBw529 new529 cBx531 aBx527
          refine wpAnyH_ready (rs := [8]) (by kernel_rfl) (by simp) ?_
          refine AllReadyH.cons (o := { dst := none, op := Op.store 116 (Operand.tmp 4) (Operand.tmp 10), type := 0, pos := "l6_aes.go:225", after := #[{ on := 6, ground := Ground.data }, { on := 1, ground := Ground.data }, { on := 5, ground := Ground.chain }, { on := 0, ground := Ground.phase }, { on := 1, ground := Ground.phase }, { on := 2, ground := Ground.textOnly Departure.lateStores }, { on := 3, ground := Ground.textOnly Departure.lateStoresUnsure }, { on := 4, ground := Ground.textOnly Departure.lateStores }, { on := 5, ground := Ground.textOnly Departure.lateStoresUnsure }, { on := 6, ground := Ground.phase }, { on := 7, ground := Ground.phase }], guard := none }) rfl (fun K' hK' => ?_) AllReadyH.nil
          rw [if_pos (by rfl)]
          refine wp_store_row 116 _ _ rfl _ #[.pointer (some ⟨gt, 0, none⟩), .slice (some ⟨gk, 0, none⟩) 11 cap] rfl rfl 116 _ Zx531 sizeC rfl (oneC _ _ _ _) ?_
          refine hK'.out _ _ HS533.bel (fun _ => ?_)
          clear hK' K'
          try simp only [Act.put, List.setIfInBounds_toArray, List.set_cons_zero, List.set_cons_succ]
          refine wpAnyH_ready (rs := [9]) (by kernel_rfl) (by simp) ?_
          refine AllReadyH.cons (o := { dst := none, op := Op.store 119 (Operand.tmp 5) (Operand.tmp 12), type := 0, pos := "l6_aes.go:225", after := #[{ on := 7, ground := Ground.data }, { on := 3, ground := Ground.data }, { on := 8, ground := Ground.chain }, { on := 0, ground := Ground.phase }, { on := 1, ground := Ground.phase }, { on := 2, ground := Ground.phase }, { on := 3, ground := Ground.phase }, { on := 4, ground := Ground.textOnly Departure.lateStores }, { on := 5, ground := Ground.textOnly Departure.lateStoresUnsure }, { on := 6, ground := Ground.phase }, { on := 7, ground := Ground.phase }, { on := 8, ground := Ground.phase }], guard := none }) rfl (fun K' hK' => ?_) AllReadyH.nil
          rw [if_pos (by rfl)]
          refine wp_store_row 119 _ _ rfl _ (rC 16 (bn t)) rfl rfl 119 _ HS533r sizeG rfl (rC_one _ _) ?_
          have HS533a := HS533.setA (bn t)
          refine hK'.out _ _ HS533a.bel (fun _ => ?_)
          clear hK' K'
          try simp only [Act.put, List.setIfInBounds_toArray, List.set_cons_zero, List.set_cons_succ]
          refine wpAnyH_ready (rs := [10]) (by kernel_rfl) (by simp) ?_
          refine AllReadyH.cons (o := { dst := some 6, op := Op.assign (Operand.tmp 14), type := 114, pos := "l6_aes.go:225", after := #[{ on := 5, ground := Ground.data }, { on := 9, ground := Ground.chain }, { on := 0, ground := Ground.phase }, { on := 1, ground := Ground.phase }, { on := 2, ground := Ground.phase }, { on := 3, ground := Ground.phase }, { on := 4, ground := Ground.phase }, { on := 5, ground := Ground.phase }, { on := 6, ground := Ground.phase }, { on := 7, ground := Ground.phase }, { on := 8, ground := Ground.phase }, { on := 9, ground := Ground.phase }], guard := none }) rfl (fun K' hK' => ?_) AllReadyH.nil
          go_simp
          refine hK'.out _ _ HS533a.bel (fun _ => ?_)
          clear hK' K'
          try simp only [Act.put, List.setIfInBounds_toArray, List.set_cons_zero, List.set_cons_succ]
          refine wpAnyH_done (by kernel_rfl) ?_ _
          exact ⟨_, gt, gk, cap, _, v, _, rfl, HS533a⟩
        refine AllReadyH.cons (o := { dst := some 4, op := Op.alloc 116, type := 0, pos := "l6_aes.go:225", after := #[], guard := none }) rfl (fun K' hK' => ?_) AllReadyH.nil
        go_simp
        have HB535 := HB528.alloc HB528.size (.cells #[.pointer none, .slice none 0 0] 116)
        have cBx534 := HB528.size
        have Tx534 := RBlater Tx527 (below_box _ (.cells #[.pointer none, .slice none 0 0] 116))
        have Kx534 := Kx527.later (below_box _ (.cells #[.pointer none, .slice none 0 0] 116))
        have Rx534 := RBlater Rx527 (below_box _ (.cells #[.pointer none, .slice none 0 0] 116))
        have qx534 : (w501.alloc (.cells #[.int .u8 0, .int .u8 0, .int .u8 0, .int .u8 0, .int .u8 0, .int .u8 0, .int .u8 0, .int .u8 0, .int .u8 0, .int .u8 0, .int .u8 0, .int .u8 0, .int .u8 0, .int .u8 0, .int .u8 0, .int .u8 0] 119)).heap.size = (w501.heap.size + 1) := by simp
        have Zx534 : CZ ((w501.alloc (.cells #[.int .u8 0, .int .u8 0, .int .u8 0, .int .u8 0, .int .u8 0, .int .u8 0, .int .u8 0, .int .u8 0, .int .u8 0, .int .u8 0, .int .u8 0, .int .u8 0, .int .u8 0, .int .u8 0, .int .u8 0, .int .u8 0] 119)).alloc (.cells #[.pointer none, .slice none 0 0] 116)) (w501.heap.size + 1) := by have := CZ.new (w501.alloc (.cells #[.int .u8 0, .int .u8 0, .int .u8 0, .int .u8 0, .int .u8 0, .int .u8 0, .int .u8 0, .int .u8 0, .int .u8 0, .int .u8 0, .int .u8 0, .int .u8 0, .int .u8 0, .int .u8 0, .int .u8 0, .int .u8 0] 119)); rw [qx534] at this; exact this
        rw [qx534] at cBx534
        refine hK'.out _ _ HB535 (fun _ => ?_)
        clear hK' K'
        try simp only [Act.put, List.setIfInBounds_toArray, List.set_cons_zero, List.set_cons_succ]
        refine wpAnyH_ready (rs := [5]) (by kernel_rfl) (by simp) ?_
        refine AllReadyH.cons (o := { dst := some 14, op := Op.call { callee := Callee.value (Operand.func 99), args := #[Operand.tmp 13], argTypes := #[9] }, type := 114, pos := "l6_aes.go:225", after := #[{ on := 4, ground := Ground.data }, { on := 3, ground := Ground.chain }], guard := none }) rfl (fun K' hK' => ?_) AllReadyH.nil
        have kBw536 := Kx534.lt
        have aLw536 := Rx534.lt
        have wBw536 := HB535.size
        go_simp
        refine (gridsOf_ok u n _ hu hn).mono ?_
        rintro e w536 ⟨v, rfl, Lw536, HB537'⟩
        have HB537 := HB535.trans (HB537'.mono HB535.size)
        have new536 : ∀ g, v.ownBlock = some g → g ≠ w501.heap.size := fun g hg => by have := (owns_own Lw536 g hg).1; omega
        have Tw536 := RBlater Tx534 HB537'
        have Kw536 := Kx534.later HB537'
        have Rw536 := RBlater Rx534 HB537'
        have Zw536 := Zx534.later HB537'
        refine hK'.out _ _ HB537 (fun _ => ?_)
        clear hK' K'
        try simp only [Act.put, List.setIfInBounds_toArray, List.set_cons_zero, List.set_cons_succ]
        obtain ⟨HS538, HS538r⟩ := HS.start (cap := cap) HB537 Zw536 Tw536 Kw536 Rw536 Lw536 wBw536 kBw536 new536 cBx534 aBx527
        refine wpAnyH_ready (rs := [8]) (by kernel_rfl) (by simp) ?_
        refine AllReadyH.cons (o := { dst := none, op := Op.store 116 (Operand.tmp 4) (Operand.tmp 10), type := 0, pos := "l6_aes.go:225", after := #[{ on := 6, ground := Ground.data }, { on := 1, ground := Ground.data }, { on := 5, ground := Ground.chain }, { on := 0, ground := Ground.phase }, { on := 1, ground := Ground.phase }, { on := 2, ground := Ground.textOnly Departure.lateStores }, { on := 3, ground := Ground.textOnly Departure.lateStoresUnsure }, { on := 4, ground := Ground.textOnly Departure.lateStores }, { on := 5, ground := Ground.textOnly Departure.lateStoresUnsure }, { on := 6, ground := Ground.phase }, { on := 7, ground := Ground.phase }], guard := none }) rfl (fun K' hK' => ?_) AllReadyH.nil
        rw [if_pos (by rfl)]
        refine wp_store_row 116 _ _ rfl _ #[.pointer (some ⟨gt, 0, none⟩), .slice (some ⟨gk, 0, none⟩) 11 cap] rfl rfl 116 _ Zw536 sizeC rfl (oneC _ _ _ _) ?_
        refine hK'.out _ _ HS538.bel (fun _ => ?_)
        clear hK' K'
        try simp only [Act.put, List.setIfInBounds_toArray, List.set_cons_zero, List.set_cons_succ]
        refine wpAnyH_ready (rs := [9]) (by kernel_rfl) (by simp) ?_
        refine AllReadyH.cons (o := { dst := none, op := Op.store 119 (Operand.tmp 5) (Operand.tmp 12), type := 0, pos := "l6_aes.go:225", after := #[{ on := 7, ground := Ground.data }, { on := 3, ground := Ground.data }, { on := 8, ground := Ground.chain }, { on := 0, ground := Ground.phase }, { on := 1, ground := Ground.phase }, { on := 2, ground := Ground.phase }, { on := 3, ground := Ground.phase }, { on := 4, ground := Ground.textOnly Departure.lateStores }, { on := 5, ground := Ground.textOnly Departure.lateStoresUnsure }, { on := 6, ground := Ground.phase }, { on := 7, ground := Ground.phase }, { on := 8, ground := Ground.phase }], guard := none }) rfl (fun K' hK' => ?_) AllReadyH.nil
        rw [if_pos (by rfl)]
        refine wp_store_row 119 _ _ rfl _ (rC 16 (bn t)) rfl rfl 119 _ HS538r sizeG rfl (rC_one _ _) ?_
        have HS538a := HS538.setA (bn t)
        refine hK'.out _ _ HS538a.bel (fun _ => ?_)
        clear hK' K'
        try simp only [Act.put, List.setIfInBounds_toArray, List.set_cons_zero, List.set_cons_succ]
        refine wpAnyH_ready (rs := [10]) (by kernel_rfl) (by simp) ?_
        refine AllReadyH.cons (o := { dst := some 6, op := Op.assign (Operand.tmp 14), type := 114, pos := "l6_aes.go:225", after := #[{ on := 5, ground := Ground.data }, { on := 9, ground := Ground.chain }, { on := 0, ground := Ground.phase }, { on := 1, ground := Ground.phase }, { on := 2, ground := Ground.phase }, { on := 3, ground := Ground.phase }, { on := 4, ground := Ground.phase }, { on := 5, ground := Ground.phase }, { on := 6, ground := Ground.phase }, { on := 7, ground := Ground.phase }, { on := 8, ground := Ground.phase }, { on := 9, ground := Ground.phase }], guard := none }) rfl (fun K' hK' => ?_) AllReadyH.nil
        go_simp
        refine hK'.out _ _ HS538a.bel (fun _ => ?_)
        clear hK' K'
        try simp only [Act.put, List.setIfInBounds_toArray, List.set_cons_zero, List.set_cons_succ]
        refine wpAnyH_done (by kernel_rfl) ?_ _
        exact ⟨_, gt, gk, cap, _, v, _, rfl, HS538a⟩
      refine AllReadyH.cons (o := { dst := some 4, op := Op.alloc 116, type := 0, pos := "l6_aes.go:225", after := #[], guard := none }) rfl (fun K' hK' => ?_) ?_
      · go_simp
        have HB540 := HB500.alloc HB500.size (.cells #[.pointer none, .slice none 0 0] 116)
        have cBx539 := HB500.size
        have Tx539 := RBlater Tw499 (below_box _ (.cells #[.pointer none, .slice none 0 0] 116))
        have Kx539 := Kw499.later (below_box _ (.cells #[.pointer none, .slice none 0 0] 116))
        have Zx539 := CZ.new w499
        refine hK'.out _ _ HB540 (fun _ => ?_)
        clear hK' K'
        try simp only [Act.put, List.setIfInBounds_toArray, List.set_cons_zero, List.set_cons_succ]
        refine wpAnyH_ready (rs := [3, 7]) (by kernel_rfl) (by simp) ?_
        refine AllReadyH.cons (o := { dst := some 12, op := Op.call { callee := Callee.value (Operand.func 98), args := #[Operand.tmp 11], argTypes := #[9] }, type := 119, pos := "l6_aes.go:225", after := #[{ on := 2, ground := Ground.data }, { on := 1, ground := Ground.chain }], guard := none }) rfl (fun K' hK' => ?_) ?_
        · go_simp
          refine (gridOf_ok t _ ht).mono ?_
          rintro e w541 ⟨rfl, HB542'⟩
          have HB542 := HB540.trans (HB542'.mono HB540.size)
          have Tw541 := RBlater Tx539 HB542'
          have Kw541 := Kx539.later HB542'
          have Zw541 := Zx539.later HB542'
          refine hK'.out _ _ HB542 (fun _ => ?_)
          clear hK' K'
          try simp only [Act.put, List.setIfInBounds_toArray, List.set_cons_zero, List.set_cons_succ]
          refine wpAnyH_ready (rs := [5, 7]) (by kernel_rfl) (by simp) ?_
          refine AllReadyH.cons (o := { dst := some 14, op := Op.call { callee := Callee.value (Operand.func 99), args := #[Operand.tmp 13], argTypes := #[9] }, type := 114, pos := "l6_aes.go:225", after := #[{ on := 4, ground := Ground.data }, { on := 3, ground := Ground.chain }], guard := none }) rfl (fun K' hK' => ?_) ?_
          · have kBw543 := Kw541.lt
            have wBw543 := HB542.size
            go_simp
            refine (gridsOf_ok u n _ hu hn).mono ?_
            rintro e w543 ⟨v, rfl, Lw543, HB544'⟩
            have HB544 := HB542.trans (HB544'.mono HB542.size)
            have Tw543 := RBlater Tw541 HB544'
            have Kw543 := Kw541.later HB544'
            have Zw543 := Zw541.later HB544'
            refine hK'.out _ _ HB544 (fun _ => ?_)
            clear hK' K'
            try simp only [Act.put, List.setIfInBounds_toArray, List.set_cons_zero, List.set_cons_succ]
            refine wpAnyH_ready (rs := [7]) (by kernel_rfl) (by simp) ?_
            refine AllReadyH.cons (o := { dst := some 5, op := Op.alloc 119, type := 0, pos := "l6_aes.go:225", after := #[], guard := none }) rfl (fun K' hK' => ?_) AllReadyH.nil
            go_simp
            have HB546 := HB544.alloc HB544.size (.cells #[.int .u8 0, .int .u8 0, .int .u8 0, .int .u8 0, .int .u8 0, .int .u8 0, .int .u8 0, .int .u8 0, .int .u8 0, .int .u8 0, .int .u8 0, .int .u8 0, .int .u8 0, .int .u8 0, .int .u8 0, .int .u8 0] 119)
            have aBx545 := HB544.size
            have nex545 : ∀ g, v.ownBlock = some g → g ≠ w543.heap.size := fun g hg => by have := (owns_own Lw543 g hg).2; omega
            have Tx545 := RBlater Tw543 (below_box _ (.cells #[.int .u8 0, .int .u8 0, .int .u8 0, .int .u8 0, .int .u8 0, .int .u8 0, .int .u8 0, .int .u8 0, .int .u8 0, .int .u8 0, .int .u8 0, .int .u8 0, .int .u8 0, .int .u8 0, .int .u8 0, .int .u8 0] 119))
            have Kx545 := Kw543.later (below_box _ (.cells #[.int .u8 0, .int .u8 0, .int .u8 0, .int .u8 0, .int .u8 0, .int .u8 0, .int .u8 0, .int .u8 0, .int .u8 0, .int .u8 0, .int .u8 0, .int .u8 0, .int .u8 0, .int .u8 0, .int .u8 0, .int .u8 0] 119))
            have Zx545 := Zw543.later (below_box _ (.cells #[.int .u8 0, .int .u8 0, .int .u8 0, .int .u8 0, .int .u8 0, .int .u8 0, .int .u8 0, .int .u8 0, .int .u8 0, .int .u8 0, .int .u8 0, .int .u8 0, .int .u8 0, .int .u8 0, .int .u8 0, .int .u8 0] 119))
            have Lx545 := owns_below Lw543 (below_box _ (.cells #[.int .u8 0, .int .u8 0, .int .u8 0, .int .u8 0, .int .u8 0, .int .u8 0, .int .u8 0, .int .u8 0, .int .u8 0, .int .u8 0, .int .u8 0, .int .u8 0, .int .u8 0, .int .u8 0, .int .u8 0, .int .u8 0] 119))
            have Rx545 : RB (w543.alloc (.cells #[.int .u8 0, .int .u8 0, .int .u8 0, .int .u8 0, .int .u8 0, .int .u8 0, .int .u8 0, .int .u8 0, .int .u8 0, .int .u8 0, .int .u8 0, .int .u8 0, .int .u8 0, .int .u8 0, .int .u8 0, .int .u8 0] 119)) w543.heap.size 16 119 (fun _ => 0) := by
              rw [zeroG]; exact RB.new w543 16 _ _
            refine hK'.out _ _ HB546 (fun _ => ?_)
            clear hK' K'
            try simp only [Act.put, List.setIfInBounds_toArray, List.set_cons_zero, List.set_cons_succ]
            obtain ⟨HS547, HS547r⟩ := HS.start (cap := cap) HB546 Zx545 Tx545 Kx545 Rx545 Lx545 wBw543 kBw543 nex545 cBx539 aBx545
            refine wpAnyH_ready (rs := [8]) (by kernel_rfl) (by simp) ?_
            refine AllReadyH.cons (o := { dst := none, op := Op.store 116 (Operand.tmp 4) (Operand.tmp 10), type := 0, pos := "l6_aes.go:225", after := #[{ on := 6, ground := Ground.data }, { on := 1, ground := Ground.data }, { on := 5, ground := Ground.chain }, { on := 0, ground := Ground.phase }, { on := 1, ground := Ground.phase }, { on := 2, ground := Ground.textOnly Departure.lateStores }, { on := 3, ground := Ground.textOnly Departure.lateStoresUnsure }, { on := 4, ground := Ground.textOnly Departure.lateStores }, { on := 5, ground := Ground.textOnly Departure.lateStoresUnsure }, { on := 6, ground := Ground.phase }, { on := 7, ground := Ground.phase }], guard := none }) rfl (fun K' hK' => ?_) AllReadyH.nil
            rw [if_pos (by rfl)]
            refine wp_store_row 116 _ _ rfl _ #[.pointer (some ⟨gt, 0, none⟩), .slice (some ⟨gk, 0, none⟩) 11 cap] rfl rfl 116 _ Zx545 sizeC rfl (oneC _ _ _ _) ?_
            refine hK'.out _ _ HS547.bel (fun _ => ?_)
            clear hK' K'
            try simp only [Act.put, List.setIfInBounds_toArray, List.set_cons_zero, List.set_cons_succ]
            refine wpAnyH_ready (rs := [9]) (by kernel_rfl) (by simp) ?_
            refine AllReadyH.cons (o := { dst := none, op := Op.store 119 (Operand.tmp 5) (Operand.tmp 12), type := 0, pos := "l6_aes.go:225", after := #[{ on := 7, ground := Ground.data }, { on := 3, ground := Ground.data }, { on := 8, ground := Ground.chain }, { on := 0, ground := Ground.phase }, { on := 1, ground := Ground.phase }, { on := 2, ground := Ground.phase }, { on := 3, ground := Ground.phase }, { on := 4, ground := Ground.textOnly Departure.lateStores }, { on := 5, ground := Ground.textOnly Departure.lateStoresUnsure }, { on := 6, ground := Ground.phase }, { on := 7, ground := Ground.phase }, { on := 8, ground := Ground.phase }], guard := none }) rfl (fun K' hK' => ?_) AllReadyH.nil
            rw [if_pos (by rfl)]
            refine wp_store_row 119 _ _ rfl _ (rC 16 (bn t)) rfl rfl 119 _ HS547r sizeG rfl (rC_one _ _) ?_
            have HS547a := HS547.setA (bn t)
            refine hK'.out _ _ HS547a.bel (fun _ => ?_)
            clear hK' K'
            try simp only [Act.put, List.setIfInBounds_toArray, List.set_cons_zero, List.set_cons_succ]
            refine wpAnyH_ready (rs := [10]) (by kernel_rfl) (by simp) ?_
            refine AllReadyH.cons (o := { dst := some 6, op := Op.assign (Operand.tmp 14), type := 114, pos := "l6_aes.go:225", after := #[{ on := 5, ground := Ground.data }, { on := 9, ground := Ground.chain }, { on := 0, ground := Ground.phase }, { on := 1, ground := Ground.phase }, { on := 2, ground := Ground.phase }, { on := 3, ground := Ground.phase }, { on := 4, ground := Ground.phase }, { on := 5, ground := Ground.phase }, { on := 6, ground := Ground.phase }, { on := 7, ground := Ground.phase }, { on := 8, ground := Ground.phase }, { on := 9, ground := Ground.phase }], guard := none }) rfl (fun K' hK' => ?_) AllReadyH.nil
            go_simp
            refine hK'.out _ _ HS547a.bel (fun _ => ?_)
            clear hK' K'
            try simp only [Act.put, List.setIfInBounds_toArray, List.set_cons_zero, List.set_cons_succ]
            refine wpAnyH_done (by kernel_rfl) ?_ _
            exact ⟨_, gt, gk, cap, _, v, _, rfl, HS547a⟩
          refine AllReadyH.cons (o := { dst := some 5, op := Op.alloc 119, type := 0, pos := "l6_aes.go:225", after := #[], guard := none }) rfl (fun K' hK' => ?_) AllReadyH.nil
          go_simp
          have HB549 := HB542.alloc HB542.size (.cells #[.int .u8 0, .int .u8 0, .int .u8 0, .int .u8 0, .int .u8 0, .int .u8 0, .int .u8 0, .int .u8 0, .int .u8 0, .int .u8 0, .int .u8 0, .int .u8 0, .int .u8 0, .int .u8 0, .int .u8 0, .int .u8 0] 119)
          have aBx548 := HB542.size
          have Tx548 := RBlater Tw541 (below_box _ (.cells #[.int .u8 0, .int .u8 0, .int .u8 0, .int .u8 0, .int .u8 0, .int .u8 0, .int .u8 0, .int .u8 0, .int .u8 0, .int .u8 0, .int .u8 0, .int .u8 0, .int .u8 0, .int .u8 0, .int .u8 0, .int .u8 0] 119))
          have Kx548 := Kw541.later (below_box _ (.cells #[.int .u8 0, .int .u8 0, .int .u8 0, .int .u8 0, .int .u8 0, .int .u8 0, .int .u8 0, .int .u8 0, .int .u8 0, .int .u8 0, .int .u8 0, .int .u8 0, .int .u8 0, .int .u8 0, .int .u8 0, .int .u8 0] 119))
          have Zx548 := Zw541.later (below_box _ (.cells #[.int .u8 0, .int .u8 0, .int .u8 0, .int .u8 0, .int .u8 0, .int .u8 0, .int .u8 0, .int .u8 0, .int .u8 0, .int .u8 0, .int .u8 0, .int .u8 0, .int .u8 0, .int .u8 0, .int .u8 0, .int .u8 0] 119))
          have Rx548 : RB (w541.alloc (.cells #[.int .u8 0, .int .u8 0, .int .u8 0, .int .u8 0, .int .u8 0, .int .u8 0, .int .u8 0, .int .u8 0, .int .u8 0, .int .u8 0, .int .u8 0, .int .u8 0, .int .u8 0, .int .u8 0, .int .u8 0, .int .u8 0] 119)) w541.heap.size 16 119 (fun _ => 0) := by
            rw [zeroG]; exact RB.new w541 16 _ _
          refine hK'.out _ _ HB549 (fun _ => ?_)
          clear hK' K'
          try simp only [Act.put, List.setIfInBounds_toArray, List.set_cons_zero, List.set_cons_succ]
          refine wpAnyH_ready (rs := [5]) (by kernel_rfl) (by simp) ?_
          refine AllReadyH.cons (o := { dst := some 14, op := Op.call { callee := Callee.value (Operand.func 99), args := #[Operand.tmp 13], argTypes := #[9] }, type := 114, pos := "l6_aes.go:225", after := #[{ on := 4, ground := Ground.data }, { on := 3, ground := Ground.chain }], guard := none }) rfl (fun K' hK' => ?_) AllReadyH.nil
          have kBw550 := Kx548.lt
          have aLw550 := Rx548.lt
          have wBw550 := HB549.size
          go_simp
          refine (gridsOf_ok u n _ hu hn).mono ?_
          rintro e w550 ⟨v, rfl, Lw550, HB551'⟩
          have HB551 := HB549.trans (HB551'.mono HB549.size)
          have new550 : ∀ g, v.ownBlock = some g → g ≠ w541.heap.size := fun g hg => by have := (owns_own Lw550 g hg).1; omega
          have Tw550 := RBlater Tx548 HB551'
          have Kw550 := Kx548.later HB551'
          have Rw550 := RBlater Rx548 HB551'
          have Zw550 := Zx548.later HB551'
          refine hK'.out _ _ HB551 (fun _ => ?_)
          clear hK' K'
          try simp only [Act.put, List.setIfInBounds_toArray, List.set_cons_zero, List.set_cons_succ]
          obtain ⟨HS552, HS552r⟩ := HS.start (cap := cap) HB551 Zw550 Tw550 Kw550 Rw550 Lw550 wBw550 kBw550 new550 cBx539 aBx548
          refine wpAnyH_ready (rs := [8]) (by kernel_rfl) (by simp) ?_
          refine AllReadyH.cons (o := { dst := none, op := Op.store 116 (Operand.tmp 4) (Operand.tmp 10), type := 0, pos := "l6_aes.go:225", after := #[{ on := 6, ground := Ground.data }, { on := 1, ground := Ground.data }, { on := 5, ground := Ground.chain }, { on := 0, ground := Ground.phase }, { on := 1, ground := Ground.phase }, { on := 2, ground := Ground.textOnly Departure.lateStores }, { on := 3, ground := Ground.textOnly Departure.lateStoresUnsure }, { on := 4, ground := Ground.textOnly Departure.lateStores }, { on := 5, ground := Ground.textOnly Departure.lateStoresUnsure }, { on := 6, ground := Ground.phase }, { on := 7, ground := Ground.phase }], guard := none }) rfl (fun K' hK' => ?_) AllReadyH.nil
          rw [if_pos (by rfl)]
          refine wp_store_row 116 _ _ rfl _ #[.pointer (some ⟨gt, 0, none⟩), .slice (some ⟨gk, 0, none⟩) 11 cap] rfl rfl 116 _ Zw550 sizeC rfl (oneC _ _ _ _) ?_
          refine hK'.out _ _ HS552.bel (fun _ => ?_)
          clear hK' K'
          try simp only [Act.put, List.setIfInBounds_toArray, List.set_cons_zero, List.set_cons_succ]
          refine wpAnyH_ready (rs := [9]) (by kernel_rfl) (by simp) ?_
          refine AllReadyH.cons (o := { dst := none, op := Op.store 119 (Operand.tmp 5) (Operand.tmp 12), type := 0, pos := "l6_aes.go:225", after := #[{ on := 7, ground := Ground.data }, { on := 3, ground := Ground.data }, { on := 8, ground := Ground.chain }, { on := 0, ground := Ground.phase }, { on := 1, ground := Ground.phase }, { on := 2, ground := Ground.phase }, { on := 3, ground := Ground.phase }, { on := 4, ground := Ground.textOnly Departure.lateStores }, { on := 5, ground := Ground.textOnly Departure.lateStoresUnsure }, { on := 6, ground := Ground.phase }, { on := 7, ground := Ground.phase }, { on := 8, ground := Ground.phase }], guard := none }) rfl (fun K' hK' => ?_) AllReadyH.nil
          rw [if_pos (by rfl)]
          refine wp_store_row 119 _ _ rfl _ (rC 16 (bn t)) rfl rfl 119 _ HS552r sizeG rfl (rC_one _ _) ?_
          have HS552a := HS552.setA (bn t)
          refine hK'.out _ _ HS552a.bel (fun _ => ?_)
          clear hK' K'
          try simp only [Act.put, List.setIfInBounds_toArray, List.set_cons_zero, List.set_cons_succ]
          refine wpAnyH_ready (rs := [10]) (by kernel_rfl) (by simp) ?_
          refine AllReadyH.cons (o := { dst := some 6, op := Op.assign (Operand.tmp 14), type := 114, pos := "l6_aes.go:225", after := #[{ on := 5, ground := Ground.data }, { on := 9, ground := Ground.chain }, { on := 0, ground := Ground.phase }, { on := 1, ground := Ground.phase }, { on := 2, ground := Ground.phase }, { on := 3, ground := Ground.phase }, { on := 4, ground := Ground.phase }, { on := 5, ground := Ground.phase }, { on := 6, ground := Ground.phase }, { on := 7, ground := Ground.phase }, { on := 8, ground := Ground.phase }, { on := 9, ground := Ground.phase }], guard := none }) rfl (fun K' hK' => ?_) AllReadyH.nil
          go_simp
          refine hK'.out _ _ HS552a.bel (fun _ => ?_)
          clear hK' K'
          try simp only [Act.put, List.setIfInBounds_toArray, List.set_cons_zero, List.set_cons_succ]
          refine wpAnyH_done (by kernel_rfl) ?_ _
          exact ⟨_, gt, gk, cap, _, v, _, rfl, HS552a⟩
        refine AllReadyH.cons (o := { dst := some 5, op := Op.alloc 119, type := 0, pos := "l6_aes.go:225", after := #[], guard := none }) rfl (fun K' hK' => ?_) AllReadyH.nil
        go_simp
        have HB554 := HB540.alloc HB540.size (.cells #[.int .u8 0, .int .u8 0, .int .u8 0, .int .u8 0, .int .u8 0, .int .u8 0, .int .u8 0, .int .u8 0, .int .u8 0, .int .u8 0, .int .u8 0, .int .u8 0, .int .u8 0, .int .u8 0, .int .u8 0, .int .u8 0] 119)
        have aBx553 := HB540.size
        have Tx553 := RBlater Tx539 (below_box _ (.cells #[.int .u8 0, .int .u8 0, .int .u8 0, .int .u8 0, .int .u8 0, .int .u8 0, .int .u8 0, .int .u8 0, .int .u8 0, .int .u8 0, .int .u8 0, .int .u8 0, .int .u8 0, .int .u8 0, .int .u8 0, .int .u8 0] 119))
        have Kx553 := Kx539.later (below_box _ (.cells #[.int .u8 0, .int .u8 0, .int .u8 0, .int .u8 0, .int .u8 0, .int .u8 0, .int .u8 0, .int .u8 0, .int .u8 0, .int .u8 0, .int .u8 0, .int .u8 0, .int .u8 0, .int .u8 0, .int .u8 0, .int .u8 0] 119))
        have Zx553 := Zx539.later (below_box _ (.cells #[.int .u8 0, .int .u8 0, .int .u8 0, .int .u8 0, .int .u8 0, .int .u8 0, .int .u8 0, .int .u8 0, .int .u8 0, .int .u8 0, .int .u8 0, .int .u8 0, .int .u8 0, .int .u8 0, .int .u8 0, .int .u8 0] 119))
        have Rx553 : RB ((w499.alloc (.cells #[.pointer none, .slice none 0 0] 116)).alloc (.cells #[.int .u8 0, .int .u8 0, .int .u8 0, .int .u8 0, .int .u8 0, .int .u8 0, .int .u8 0, .int .u8 0, .int .u8 0, .int .u8 0, .int .u8 0, .int .u8 0, .int .u8 0, .int .u8 0, .int .u8 0, .int .u8 0] 119)) (w499.alloc (.cells #[.pointer none, .slice none 0 0] 116)).heap.size 16 119 (fun _ => 0) := by
          rw [zeroG]; exact RB.new (w499.alloc (.cells #[.pointer none, .slice none 0 0] 116)) 16 _ _
        have qx553 : (w499.alloc (.cells #[.pointer none, .slice none 0 0] 116)).heap.size = (w499.heap.size + 1) := by simp
        rw [qx553] at Rx553 aBx553
        refine hK'.out _ _ HB554 (fun _ => ?_)
        clear hK' K'
        try simp only [Act.put, List.setIfInBounds_toArray, List.set_cons_zero, List.set_cons_succ]
        refine wpAnyH_ready (rs := [3]) (by kernel_rfl) (by simp) ?_
        refine AllReadyH.cons (o := { dst := some 12, op := Op.call { callee := Callee.value (Operand.func 98), args := #[Operand.tmp 11], argTypes := #[9] }, type := 119, pos := "l6_aes.go:225", after := #[{ on := 2, ground := Ground.data }, { on := 1, ground := Ground.chain }], guard := none }) rfl (fun K' hK' => ?_) AllReadyH.nil
        go_simp
        refine (gridOf_ok t _ ht).mono ?_
        rintro e w555 ⟨rfl, HB556'⟩
        have HB556 := HB554.trans (HB556'.mono HB554.size)
        have Tw555 := RBlater Tx553 HB556'
        have Kw555 := Kx553.later HB556'
        have Rw555 := RBlater Rx553 HB556'
        have Zw555 := Zx553.later HB556'
        refine hK'.out _ _ HB556 (fun _ => ?_)
        clear hK' K'
        try simp only [Act.put, List.setIfInBounds_toArray, List.set_cons_zero, List.set_cons_succ]
        refine wpAnyH_ready (rs := [5]) (by kernel_rfl) (by simp) ?_
        refine AllReadyH.cons (o := { dst := some 14, op := Op.call { callee := Callee.value (Operand.func 99), args := #[Operand.tmp 13], argTypes := #[9] }, type := 114, pos := "l6_aes.go:225", after := #[{ on := 4, ground := Ground.data }, { on := 3, ground := Ground.chain }], guard := none }) rfl (fun K' hK' => ?_) AllReadyH.nil
        have kBw557 := Kw555.lt
        have aLw557 := Rw555.lt
        have wBw557 := HB556.size
        go_simp
        refine (gridsOf_ok u n _ hu hn).mono ?_
        rintro e w557 ⟨v, rfl, Lw557, HB558'⟩
        have HB558 := HB556.trans (HB558'.mono HB556.size)
        have new557 : ∀ g, v.ownBlock = some g → g ≠ (w499.heap.size + 1) := fun g hg => by have := (owns_own Lw557 g hg).1; omega
        have Tw557 := RBlater Tw555 HB558'
        have Kw557 := Kw555.later HB558'
        have Rw557 := RBlater Rw555 HB558'
        have Zw557 := Zw555.later HB558'
        refine hK'.out _ _ HB558 (fun _ => ?_)
        clear hK' K'
        try simp only [Act.put, List.setIfInBounds_toArray, List.set_cons_zero, List.set_cons_succ]
        obtain ⟨HS559, HS559r⟩ := HS.start (cap := cap) HB558 Zw557 Tw557 Kw557 Rw557 Lw557 wBw557 kBw557 new557 cBx539 aBx553
        refine wpAnyH_ready (rs := [8]) (by kernel_rfl) (by simp) ?_
        refine AllReadyH.cons (o := { dst := none, op := Op.store 116 (Operand.tmp 4) (Operand.tmp 10), type := 0, pos := "l6_aes.go:225", after := #[{ on := 6, ground := Ground.data }, { on := 1, ground := Ground.data }, { on := 5, ground := Ground.chain }, { on := 0, ground := Ground.phase }, { on := 1, ground := Ground.phase }, { on := 2, ground := Ground.textOnly Departure.lateStores }, { on := 3, ground := Ground.textOnly Departure.lateStoresUnsure }, { on := 4, ground := Ground.textOnly Departure.lateStores }, { on := 5, ground := Ground.textOnly Departure.lateStoresUnsure }, { on := 6, ground := Ground.phase }, { on := 7, ground := Ground.phase }], guard := none }) rfl (fun K' hK' => ?_) AllReadyH.nil
        rw [if_pos (by rfl)]
        refine wp_store_row 116 _ _ rfl _ #[.pointer (some ⟨gt, 0, none⟩), .slice (some ⟨gk, 0, none⟩) 11 cap] rfl rfl 116 _ Zw557 sizeC rfl (oneC _ _ _ _) ?_
        refine hK'.out _ _ HS559.bel (fun _ => ?_)
        clear hK' K'
        try simp only [Act.put, List.setIfInBounds_toArray, List.set_cons_zero, List.set_cons_succ]
        refine wpAnyH_ready (rs := [9]) (by kernel_rfl) (by simp) ?_
        refine AllReadyH.cons (o := { dst := none, op := Op.store 119 (Operand.tmp 5) (Operand.tmp 12), type := 0, pos := "l6_aes.go:225", after := #[{ on := 7, ground := Ground.data }, { on := 3, ground := Ground.data }, { on := 8, ground := Ground.chain }, { on := 0, ground := Ground.phase }, { on := 1, ground := Ground.phase }, { on := 2, ground := Ground.phase }, { on := 3, ground := Ground.phase }, { on := 4, ground := Ground.textOnly Departure.lateStores }, { on := 5, ground := Ground.textOnly Departure.lateStoresUnsure }, { on := 6, ground := Ground.phase }, { on := 7, ground := Ground.phase }, { on := 8, ground := Ground.phase }], guard := none }) rfl (fun K' hK' => ?_) AllReadyH.nil
        rw [if_pos (by rfl)]
        refine wp_store_row 119 _ _ rfl _ (rC 16 (bn t)) rfl rfl 119 _ HS559r sizeG rfl (rC_one _ _) ?_
        have HS559a := HS559.setA (bn t)
        refine hK'.out _ _ HS559a.bel (fun _ => ?_)
        clear hK' K'
        try simp only [Act.put, List.setIfInBounds_toArray, List.set_cons_zero, List.set_cons_succ]
        refine wpAnyH_ready (rs := [10]) (by kernel_rfl) (by simp) ?_
        refine AllReadyH.cons (o := { dst := some 6, op := Op.assign (Operand.tmp 14), type := 114, pos := "l6_aes.go:225", after := #[{ on := 5, ground := Ground.data }, { on := 9, ground := Ground.chain }, { on := 0, ground := Ground.phase }, { on := 1, ground := Ground.phase }, { on := 2, ground := Ground.phase }, { on := 3, ground := Ground.phase }, { on := 4, ground := Ground.phase }, { on := 5, ground := Ground.phase }, { on := 6, ground := Ground.phase }, { on := 7, ground := Ground.phase }, { on := 8, ground := Ground.phase }, { on := 9, ground := Ground.phase }], guard := none }) rfl (fun K' hK' => ?_) AllReadyH.nil
        go_simp
        refine hK'.out _ _ HS559a.bel (fun _ => ?_)
        clear hK' K'
        try simp only [Act.put, List.setIfInBounds_toArray, List.set_cons_zero, List.set_cons_succ]
        refine wpAnyH_done (by kernel_rfl) ?_ _
        exact ⟨_, gt, gk, cap, _, v, _, rfl, HS559a⟩
      refine AllReadyH.cons (o := { dst := some 5, op := Op.alloc 119, type := 0, pos := "l6_aes.go:225", after := #[], guard := none }) rfl (fun K' hK' => ?_) AllReadyH.nil
      go_simp
      have HB561 := HB500.alloc HB500.size (.cells #[.int .u8 0, .int .u8 0, .int .u8 0, .int .u8 0, .int .u8 0, .int .u8 0, .int .u8 0, .int .u8 0, .int .u8 0, .int .u8 0, .int .u8 0, .int .u8 0, .int .u8 0, .int .u8 0, .int .u8 0, .int .u8 0] 119)
      have aBx560 := HB500.size
      have Tx560 := RBlater Tw499 (below_box _ (.cells #[.int .u8 0, .int .u8 0, .int .u8 0, .int .u8 0, .int .u8 0, .int .u8 0, .int .u8 0, .int .u8 0, .int .u8 0, .int .u8 0, .int .u8 0, .int .u8 0, .int .u8 0, .int .u8 0, .int .u8 0, .int .u8 0] 119))
      have Kx560 := Kw499.later (below_box _ (.cells #[.int .u8 0, .int .u8 0, .int .u8 0, .int .u8 0, .int .u8 0, .int .u8 0, .int .u8 0, .int .u8 0, .int .u8 0, .int .u8 0, .int .u8 0, .int .u8 0, .int .u8 0, .int .u8 0, .int .u8 0, .int .u8 0] 119))
      have Rx560 : RB (w499.alloc (.cells #[.int .u8 0, .int .u8 0, .int .u8 0, .int .u8 0, .int .u8 0, .int .u8 0, .int .u8 0, .int .u8 0, .int .u8 0, .int .u8 0, .int .u8 0, .int .u8 0, .int .u8 0, .int .u8 0, .int .u8 0, .int .u8 0] 119)) w499.heap.size 16 119 (fun _ => 0) := by
        rw [zeroG]; exact RB.new w499 16 _ _
      refine hK'.out _ _ HB561 (fun _ => ?_)
      clear hK' K'
      try simp only [Act.put, List.setIfInBounds_toArray, List.set_cons_zero, List.set_cons_succ]
      refine wpAnyH_ready (rs := [3, 6]) (by kernel_rfl) (by simp) ?_
      refine AllReadyH.cons (o := { dst := some 12, op := Op.call { callee := Callee.value (Operand.func 98), args := #[Operand.tmp 11], argTypes := #[9] }, type := 119, pos := "l6_aes.go:225", after := #[{ on := 2, ground := Ground.data }, { on := 1, ground := Ground.chain }], guard := none }) rfl (fun K' hK' => ?_) ?_
      · go_simp
        refine (gridOf_ok t _ ht).mono ?_
        rintro e w562 ⟨rfl, HB563'⟩
        have HB563 := HB561.trans (HB563'.mono HB561.size)
        have Tw562 := RBlater Tx560 HB563'
        have Kw562 := Kx560.later HB563'
        have Rw562 := RBlater Rx560 HB563'
        refine hK'.out _ _ HB563 (fun _ => ?_)
        clear hK' K'
        try simp only [Act.put, List.setIfInBounds_toArray, List.set_cons_zero, List.set_cons_succ]
        refine wpAnyH_ready (rs := [5, 6]) (by kernel_rfl) (by simp) ?_
        refine AllReadyH.cons (o := { dst := some 14, op := Op.call { callee := Callee.value (Operand.func 99), args := #[Operand.tmp 13], argTypes := #[9] }, type := 114, pos := "l6_aes.go:225", after := #[{ on := 4, ground := Ground.data }, { on := 3, ground := Ground.chain }], guard := none }) rfl (fun K' hK' => ?_) ?_
        · have kBw564 := Kw562.lt
          have aLw564 := Rw562.lt
          have wBw564 := HB563.size
          go_simp
          refine (gridsOf_ok u n _ hu hn).mono ?_
          rintro e w564 ⟨v, rfl, Lw564, HB565'⟩
          have HB565 := HB563.trans (HB565'.mono HB563.size)
          have new564 : ∀ g, v.ownBlock = some g → g ≠ w499.heap.size := fun g hg => by have := (owns_own Lw564 g hg).1; omega
          have Tw564 := RBlater Tw562 HB565'
          have Kw564 := Kw562.later HB565'
          have Rw564 := RBlater Rw562 HB565'
          refine hK'.out _ _ HB565 (fun _ => ?_)
          clear hK' K'
          try simp only [Act.put, List.setIfInBounds_toArray, List.set_cons_zero, List.set_cons_succ]
          refine wpAnyH_ready (rs := [6]) (by kernel_rfl) (by simp) ?_
          refine AllReadyH.cons (o := { dst := some 4, op := Op.alloc 116, type := 0, pos := "l6_aes.go:225", after := #[], guard := none }) rfl (fun K' hK' => ?_) AllReadyH.nil
          go_simp
          have HB567 := HB565.alloc HB565.size (.cells #[.pointer none, .slice none 0 0] 116)
          have cBx566 := HB565.size
          have Tx566 := RBlater Tw564 (below_box _ (.cells #[.pointer none, .slice none 0 0] 116))
          have Kx566 := Kw564.later (below_box _ (.cells #[.pointer none, .slice none 0 0] 116))
          have Rx566 := RBlater Rw564 (below_box _ (.cells #[.pointer none, .slice none 0 0] 116))
          have Lx566 := owns_below Lw564 (below_box _ (.cells #[.pointer none, .slice none 0 0] 116))
          have Zx566 := CZ.new w564
          refine hK'.out _ _ HB567 (fun _ => ?_)
          clear hK' K'
          try simp only [Act.put, List.setIfInBounds_toArray, List.set_cons_zero, List.set_cons_succ]
          obtain ⟨HS568, HS568r⟩ := HS.start (cap := cap) HB567 Zx566 Tx566 Kx566 Rx566 Lx566 wBw564 kBw564 new564 cBx566 aBx560
          refine wpAnyH_ready (rs := [8]) (by kernel_rfl) (by simp) ?_
          refine AllReadyH.cons (o := { dst := none, op := Op.store 116 (Operand.tmp 4) (Operand.tmp 10), type := 0, pos := "l6_aes.go:225", after := #[{ on := 6, ground := Ground.data }, { on := 1, ground := Ground.data }, { on := 5, ground := Ground.chain }, { on := 0, ground := Ground.phase }, { on := 1, ground := Ground.phase }, { on := 2, ground := Ground.textOnly Departure.lateStores }, { on := 3, ground := Ground.textOnly Departure.lateStoresUnsure }, { on := 4, ground := Ground.textOnly Departure.lateStores }, { on := 5, ground := Ground.textOnly Departure.lateStoresUnsure }, { on := 6, ground := Ground.phase }, { on := 7, ground := Ground.phase }], guard := none }) rfl (fun K' hK' => ?_) AllReadyH.nil
          rw [if_pos (by rfl)]
          refine wp_store_row 116 _ _ rfl _ #[.pointer (some ⟨gt, 0, none⟩), .slice (some ⟨gk, 0, none⟩) 11 cap] rfl rfl 116 _ Zx566 sizeC rfl (oneC _ _ _ _) ?_
          refine hK'.out _ _ HS568.bel (fun _ => ?_)
          clear hK' K'
          try simp only [Act.put, List.setIfInBounds_toArray, List.set_cons_zero, List.set_cons_succ]
          refine wpAnyH_ready (rs := [9]) (by kernel_rfl) (by simp) ?_
          refine AllReadyH.cons (o := { dst := none, op := Op.store 119 (Operand.tmp 5) (Operand.tmp 12), type := 0, pos := "l6_aes.go:225", after := #[{ on := 7, ground := Ground.data }, { on := 3, ground := Ground.data }, { on := 8, ground := Ground.chain }, { on := 0, ground := Ground.phase }, { on := 1, ground := Ground.phase }, { on := 2, ground := Ground.phase }, { on := 3, ground := Ground.phase }, { on := 4, ground := Ground.textOnly Departure.lateStores }, { on := 5, ground := Ground.textOnly Departure.lateStoresUnsure }, { on := 6, ground := Ground.phase }, { on := 7, ground := Ground.phase }, { on := 8, ground := Ground.phase }], guard := none }) rfl (fun K' hK' => ?_) AllReadyH.nil
          rw [if_pos (by rfl)]
          refine wp_store_row 119 _ _ rfl _ (rC 16 (bn t)) rfl rfl 119 _ HS568r sizeG rfl (rC_one _ _) ?_
          have HS568a := HS568.setA (bn t)
          refine hK'.out _ _ HS568a.bel (fun _ => ?_)
          clear hK' K'
          try simp only [Act.put, List.setIfInBounds_toArray, List.set_cons_zero, List.set_cons_succ]
          refine wpAnyH_ready (rs := [10]) (by kernel_rfl) (by simp) ?_
          refine AllReadyH.cons (o := { dst := some 6, op := Op.assign (Operand.tmp 14), type := 114, pos := "l6_aes.go:225", after := #[{ on := 5, ground := Ground.data }, { on := 9, ground := Ground.chain }, { on := 0, ground := Ground.phase }, { on := 1, ground := Ground.phase }, { on := 2, ground := Ground.phase }, { on := 3, ground := Ground.phase }, { on := 4, ground := Ground.phase }, { on := 5, ground := Ground.phase }, { on := 6, ground := Ground.phase }, { on := 7, ground := Ground.phase }, { on := 8, ground := Ground.phase }, { on := 9, ground := Ground.phase }], guard := none }) rfl (fun K' hK' => ?_) AllReadyH.nil
          go_simp
          refine hK'.out _ _ HS568a.bel (fun _ => ?_)
          clear hK' K'
          try simp only [Act.put, List.setIfInBounds_toArray, List.set_cons_zero, List.set_cons_succ]
          refine wpAnyH_done (by kernel_rfl) ?_ _
          exact ⟨_, gt, gk, cap, _, v, _, rfl, HS568a⟩
        refine AllReadyH.cons (o := { dst := some 4, op := Op.alloc 116, type := 0, pos := "l6_aes.go:225", after := #[], guard := none }) rfl (fun K' hK' => ?_) AllReadyH.nil
        go_simp
        have HB570 := HB563.alloc HB563.size (.cells #[.pointer none, .slice none 0 0] 116)
        have cBx569 := HB563.size
        have Tx569 := RBlater Tw562 (below_box _ (.cells #[.pointer none, .slice none 0 0] 116))
        have Kx569 := Kw562.later (below_box _ (.cells #[.pointer none, .slice none 0 0] 116))
        have Rx569 := RBlater Rw562 (below_box _ (.cells #[.pointer none, .slice none 0 0] 116))
        have Zx569 := CZ.new w562
        refine hK'.out _ _ HB570 (fun _ => ?_)
        clear hK' K'
        try simp only [Act.put, List.setIfInBounds_toArray, List.set_cons_zero, List.set_cons_succ]
        refine wpAnyH_ready (rs := [5]) (by kernel_rfl) (by simp) ?_
        refine AllReadyH.cons (o := { dst := some 14, op := Op.call { callee := Callee.value (Operand.func 99), args := #[Operand.tmp 13], argTypes := #[9] }, type := 114, pos := "l6_aes.go:225", after := #[{ on := 4, ground := Ground.data }, { on := 3, ground := Ground.chain }], guard := none }) rfl (fun K' hK' => ?_) AllReadyH.nil
        have kBw571 := Kx569.lt
        have aLw571 := Rx569.lt
        have wBw571 := HB570.size
        go_simp
        refine (gridsOf_ok u n _ hu hn).mono ?_
        rintro e w571 ⟨v, rfl, Lw571, HB572'⟩
        have HB572 := HB570.trans (HB572'.mono HB570.size)
        have new571 : ∀ g, v.ownBlock = some g → g ≠ w499.heap.size := fun g hg => by have := (owns_own Lw571 g hg).1; omega
        have Tw571 := RBlater Tx569 HB572'
        have Kw571 := Kx569.later HB572'
        have Rw571 := RBlater Rx569 HB572'
        have Zw571 := Zx569.later HB572'
        refine hK'.out _ _ HB572 (fun _ => ?_)
        clear hK' K'
        try simp only [Act.put, List.setIfInBounds_toArray, List.set_cons_zero, List.set_cons_succ]
        obtain ⟨HS573, HS573r⟩ := HS.start (cap := cap) HB572 Zw571 Tw571 Kw571 Rw571 Lw571 wBw571 kBw571 new571 cBx569 aBx560
        refine wpAnyH_ready (rs := [8]) (by kernel_rfl) (by simp) ?_
        refine AllReadyH.cons (o := { dst := none, op := Op.store 116 (Operand.tmp 4) (Operand.tmp 10), type := 0, pos := "l6_aes.go:225", after := #[{ on := 6, ground := Ground.data }, { on := 1, ground := Ground.data }, { on := 5, ground := Ground.chain }, { on := 0, ground := Ground.phase }, { on := 1, ground := Ground.phase }, { on := 2, ground := Ground.textOnly Departure.lateStores }, { on := 3, ground := Ground.textOnly Departure.lateStoresUnsure }, { on := 4, ground := Ground.textOnly Departure.lateStores }, { on := 5, ground := Ground.textOnly Departure.lateStoresUnsure }, { on := 6, ground := Ground.phase }, { on := 7, ground := Ground.phase }], guard := none }) rfl (fun K' hK' => ?_) AllReadyH.nil
        rw [if_pos (by rfl)]
        refine wp_store_row 116 _ _ rfl _ #[.pointer (some ⟨gt, 0, none⟩), .slice (some ⟨gk, 0, none⟩) 11 cap] rfl rfl 116 _ Zw571 sizeC rfl (oneC _ _ _ _) ?_
        refine hK'.out _ _ HS573.bel (fun _ => ?_)
        clear hK' K'
        try simp only [Act.put, List.setIfInBounds_toArray, List.set_cons_zero, List.set_cons_succ]
        refine wpAnyH_ready (rs := [9]) (by kernel_rfl) (by simp) ?_
        refine AllReadyH.cons (o := { dst := none, op := Op.store 119 (Operand.tmp 5) (Operand.tmp 12), type := 0, pos := "l6_aes.go:225", after := #[{ on := 7, ground := Ground.data }, { on := 3, ground := Ground.data }, { on := 8, ground := Ground.chain }, { on := 0, ground := Ground.phase }, { on := 1, ground := Ground.phase }, { on := 2, ground := Ground.phase }, { on := 3, ground := Ground.phase }, { on := 4, ground := Ground.textOnly Departure.lateStores }, { on := 5, ground := Ground.textOnly Departure.lateStoresUnsure }, { on := 6, ground := Ground.phase }, { on := 7, ground := Ground.phase }, { on := 8, ground := Ground.phase }], guard := none }) rfl (fun K' hK' => ?_) AllReadyH.nil
        rw [if_pos (by rfl)]
        refine wp_store_row 119 _ _ rfl _ (rC 16 (bn t)) rfl rfl 119 _ HS573r sizeG rfl (rC_one _ _) ?_
        have HS573a := HS573.setA (bn t)
        refine hK'.out _ _ HS573a.bel (fun _ => ?_)
        clear hK' K'
        try simp only [Act.put, List.setIfInBounds_toArray, List.set_cons_zero, List.set_cons_succ]
        refine wpAnyH_ready (rs := [10]) (by kernel_rfl) (by simp) ?_
        refine AllReadyH.cons (o := { dst := some 6, op := Op.assign (Operand.tmp 14), type := 114, pos := "l6_aes.go:225", after := #[{ on := 5, ground := Ground.data }, { on := 9, ground := Ground.chain }, { on := 0, ground := Ground.phase }, { on := 1, ground := Ground.phase }, { on := 2, ground := Ground.phase }, { on := 3, ground := Ground.phase }, { on := 4, ground := Ground.phase }, { on := 5, ground := Ground.phase }, { on := 6, ground := Ground.phase }, { on := 7, ground := Ground.phase }, { on := 8, ground := Ground.phase }, { on := 9, ground := Ground.phase }], guard := none }) rfl (fun K' hK' => ?_) AllReadyH.nil
        go_simp
        refine hK'.out _ _ HS573a.bel (fun _ => ?_)
        clear hK' K'
        try simp only [Act.put, List.setIfInBounds_toArray, List.set_cons_zero, List.set_cons_succ]
        refine wpAnyH_done (by kernel_rfl) ?_ _
        exact ⟨_, gt, gk, cap, _, v, _, rfl, HS573a⟩
      refine AllReadyH.cons (o := { dst := some 4, op := Op.alloc 116, type := 0, pos := "l6_aes.go:225", after := #[], guard := none }) rfl (fun K' hK' => ?_) AllReadyH.nil
      go_simp
      have HB575 := HB561.alloc HB561.size (.cells #[.pointer none, .slice none 0 0] 116)
      have cBx574 := HB561.size
      have Tx574 := RBlater Tx560 (below_box _ (.cells #[.pointer none, .slice none 0 0] 116))
      have Kx574 := Kx560.later (below_box _ (.cells #[.pointer none, .slice none 0 0] 116))
      have Rx574 := RBlater Rx560 (below_box _ (.cells #[.pointer none, .slice none 0 0] 116))
      have qx574 : (w499.alloc (.cells #[.int .u8 0, .int .u8 0, .int .u8 0, .int .u8 0, .int .u8 0, .int .u8 0, .int .u8 0, .int .u8 0, .int .u8 0, .int .u8 0, .int .u8 0, .int .u8 0, .int .u8 0, .int .u8 0, .int .u8 0, .int .u8 0] 119)).heap.size = (w499.heap.size + 1) := by simp
      have Zx574 : CZ ((w499.alloc (.cells #[.int .u8 0, .int .u8 0, .int .u8 0, .int .u8 0, .int .u8 0, .int .u8 0, .int .u8 0, .int .u8 0, .int .u8 0, .int .u8 0, .int .u8 0, .int .u8 0, .int .u8 0, .int .u8 0, .int .u8 0, .int .u8 0] 119)).alloc (.cells #[.pointer none, .slice none 0 0] 116)) (w499.heap.size + 1) := by have := CZ.new (w499.alloc (.cells #[.int .u8 0, .int .u8 0, .int .u8 0, .int .u8 0, .int .u8 0, .int .u8 0, .int .u8 0, .int .u8 0, .int .u8 0, .int .u8 0, .int .u8 0, .int .u8 0, .int .u8 0, .int .u8 0, .int .u8 0, .int .u8 0] 119)); rw [qx574] at this; exact this
      rw [qx574] at cBx574
      refine hK'.out _ _ HB575 (fun _ => ?_)
      clear hK' K'
      try simp only [Act.put, List.setIfInBounds_toArray, List.set_cons_zero, List.set_cons_succ]
      refine wpAnyH_ready (rs := [3]) (by kernel_rfl) (by simp) ?_
      refine AllReadyH.cons (o := { dst := some 12, op := Op.call { callee := Callee.value (Operand.func 98), args := #[Operand.tmp 11], argTypes := #[9] }, type := 119, pos := "l6_aes.go:225", after := #[{ on := 2, ground := Ground.data }, { on := 1, ground := Ground.chain }], guard := none }) rfl (fun K' hK' => ?_) AllReadyH.nil
      go_simp
      refine (gridOf_ok t _ ht).mono ?_
      rintro e w576 ⟨rfl, HB577'⟩
      have HB577 := HB575.trans (HB577'.mono HB575.size)
      have Tw576 := RBlater Tx574 HB577'
      have Kw576 := Kx574.later HB577'
      have Rw576 := RBlater Rx574 HB577'
      have Zw576 := Zx574.later HB577'
      refine hK'.out _ _ HB577 (fun _ => ?_)
      clear hK' K'
      try simp only [Act.put, List.setIfInBounds_toArray, List.set_cons_zero, List.set_cons_succ]
      refine wpAnyH_ready (rs := [5]) (by kernel_rfl) (by simp) ?_
      refine AllReadyH.cons (o := { dst := some 14, op := Op.call { callee := Callee.value (Operand.func 99), args := #[Operand.tmp 13], argTypes := #[9] }, type := 114, pos := "l6_aes.go:225", after := #[{ on := 4, ground := Ground.data }, { on := 3, ground := Ground.chain }], guard := none }) rfl (fun K' hK' => ?_) AllReadyH.nil
      have kBw578 := Kw576.lt
      have aLw578 := Rw576.lt
      have wBw578 := HB577.size
      go_simp
      refine (gridsOf_ok u n _ hu hn).mono ?_
      rintro e w578 ⟨v, rfl, Lw578, HB579'⟩
      have HB579 := HB577.trans (HB579'.mono HB577.size)
      have new578 : ∀ g, v.ownBlock = some g → g ≠ w499.heap.size := fun g hg => by have := (owns_own Lw578 g hg).1; omega
      have Tw578 := RBlater Tw576 HB579'
      have Kw578 := Kw576.later HB579'
      have Rw578 := RBlater Rw576 HB579'
      have Zw578 := Zw576.later HB579'
      refine hK'.out _ _ HB579 (fun _ => ?_)
      clear hK' K'
      try simp only [Act.put, List.setIfInBounds_toArray, List.set_cons_zero, List.set_cons_succ]
      obtain ⟨HS580, HS580r⟩ := HS.start (cap := cap) HB579 Zw578 Tw578 Kw578 Rw578 Lw578 wBw578 kBw578 new578 cBx574 aBx560
      refine wpAnyH_ready (rs := [8]) (by kernel_rfl) (by simp) ?_
      refine AllReadyH.cons (o := { dst := none, op := Op.store 116 (Operand.tmp 4) (Operand.tmp 10), type := 0, pos := "l6_aes.go:225", after := #[{ on := 6, ground := Ground.data }, { on := 1, ground := Ground.data }, { on := 5, ground := Ground.chain }, { on := 0, ground := Ground.phase }, { on := 1, ground := Ground.phase }, { on := 2, ground := Ground.textOnly Departure.lateStores }, { on := 3, ground := Ground.textOnly Departure.lateStoresUnsure }, { on := 4, ground := Ground.textOnly Departure.lateStores }, { on := 5, ground := Ground.textOnly Departure.lateStoresUnsure }, { on := 6, ground := Ground.phase }, { on := 7, ground := Ground.phase }], guard := none }) rfl (fun K' hK' => ?_) AllReadyH.nil
      rw [if_pos (by rfl)]
      refine wp_store_row 116 _ _ rfl _ #[.pointer (some ⟨gt, 0, none⟩), .slice (some ⟨gk, 0, none⟩) 11 cap] rfl rfl 116 _ Zw578 sizeC rfl (oneC _ _ _ _) ?_
      refine hK'.out _ _ HS580.bel (fun _ => ?_)
      clear hK' K'
      try simp only [Act.put, List.setIfInBounds_toArray, List.set_cons_zero, List.set_cons_succ]
      refine wpAnyH_ready (rs := [9]) (by kernel_rfl) (by simp) ?_
      refine AllReadyH.cons (o := { dst := none, op := Op.store 119 (Operand.tmp 5) (Operand.tmp 12), type := 0, pos := "l6_aes.go:225", after := #[{ on := 7, ground := Ground.data }, { on := 3, ground := Ground.data }, { on := 8, ground := Ground.chain }, { on := 0, ground := Ground.phase }, { on := 1, ground := Ground.phase }, { on := 2, ground := Ground.phase }, { on := 3, ground := Ground.phase }, { on := 4, ground := Ground.textOnly Departure.lateStores }, { on := 5, ground := Ground.textOnly Departure.lateStoresUnsure }, { on := 6, ground := Ground.phase }, { on := 7, ground := Ground.phase }, { on := 8, ground := Ground.phase }], guard := none }) rfl (fun K' hK' => ?_) AllReadyH.nil
      rw [if_pos (by rfl)]
      refine wp_store_row 119 _ _ rfl _ (rC 16 (bn t)) rfl rfl 119 _ HS580r sizeG rfl (rC_one _ _) ?_
      have HS580a := HS580.setA (bn t)
      refine hK'.out _ _ HS580a.bel (fun _ => ?_)
      clear hK' K'
      try simp only [Act.put, List.setIfInBounds_toArray, List.set_cons_zero, List.set_cons_succ]
      refine wpAnyH_ready (rs := [10]) (by kernel_rfl) (by simp) ?_
      refine AllReadyH.cons (o := { dst := some 6, op := Op.assign (Operand.tmp 14), type := 114, pos := "l6_aes.go:225", after := #[{ on := 5, ground := Ground.data }, { on := 9, ground := Ground.chain }, { on := 0, ground := Ground.phase }, { on := 1, ground := Ground.phase }, { on := 2, ground := Ground.phase }, { on := 3, ground := Ground.phase }, { on := 4, ground := Ground.phase }, { on := 5, ground := Ground.phase }, { on := 6, ground := Ground.phase }, { on := 7, ground := Ground.phase }, { on := 8, ground := Ground.phase }, { on := 9, ground := Ground.phase }], guard := none }) rfl (fun K' hK' => ?_) AllReadyH.nil
      go_simp
      refine hK'.out _ _ HS580a.bel (fun _ => ?_)
      clear hK' K'
      try simp only [Act.put, List.setIfInBounds_toArray, List.set_cons_zero, List.set_cons_succ]
      refine wpAnyH_done (by kernel_rfl) ?_ _
      exact ⟨_, gt, gk, cap, _, v, _, rfl, HS580a⟩
    refine AllReadyH.cons (o := { dst := some 4, op := Op.alloc 116, type := 0, pos := "l6_aes.go:225", after := #[], guard := none }) rfl (fun K' hK' => ?_) ?_
    · go_simp
      have HB582 := H0.alloc H0.size (.cells #[.pointer none, .slice none 0 0] 116)
      have cBx581 := H0.size
      have Zx581 := CZ.new w.drew
      refine hK'.out _ _ HB582 (fun _ => ?_)
      clear hK' K'
      try simp only [Act.put, List.setIfInBounds_toArray, List.set_cons_zero, List.set_cons_succ]
      refine wpAnyH_ready (rs := [1, 7]) (by kernel_rfl) (by simp) ?_
      refine AllReadyH.cons (o := { dst := some 10, op := Op.call { callee := Callee.value (Operand.func 97), args := #[Operand.tmp 9], argTypes := #[9] }, type := 116, pos := "l6_aes.go:225", after := #[{ on := 0, ground := Ground.data }], guard := none }) rfl (fun K' hK' => ?_) ?_
      · go_simp
        refine (cipherOf_ok s _ hs).mono ?_
        rintro e w583 ⟨gt, gk, cap, rfl, Tw583, Kw583, HB584'⟩
        have HB584 := HB582.trans (HB584'.mono HB582.size)
        have Zw583 := Zx581.later HB584'
        refine hK'.out _ _ HB584 (fun _ => ?_)
        clear hK' K'
        try simp only [Act.put, List.setIfInBounds_toArray, List.set_cons_zero, List.set_cons_succ]
        refine wpAnyH_ready (rs := [3, 7]) (by kernel_rfl) (by simp) ?_
        refine AllReadyH.cons (o := { dst := some 12, op := Op.call { callee := Callee.value (Operand.func 98), args := #[Operand.tmp 11], argTypes := #[9] }, type := 119, pos := "l6_aes.go:225", after := #[{ on := 2, ground := Ground.data }, { on := 1, ground := Ground.chain }], guard := none }) rfl (fun K' hK' => ?_) ?_
        · go_simp
          refine (gridOf_ok t _ ht).mono ?_
          rintro e w585 ⟨rfl, HB586'⟩
          have HB586 := HB584.trans (HB586'.mono HB584.size)
          have Tw585 := RBlater Tw583 HB586'
          have Kw585 := Kw583.later HB586'
          have Zw585 := Zw583.later HB586'
          refine hK'.out _ _ HB586 (fun _ => ?_)
          clear hK' K'
          try simp only [Act.put, List.setIfInBounds_toArray, List.set_cons_zero, List.set_cons_succ]
          refine wpAnyH_ready (rs := [5, 7]) (by kernel_rfl) (by simp) ?_
          refine AllReadyH.cons (o := { dst := some 14, op := Op.call { callee := Callee.value (Operand.func 99), args := #[Operand.tmp 13], argTypes := #[9] }, type := 114, pos := "l6_aes.go:225", after := #[{ on := 4, ground := Ground.data }, { on := 3, ground := Ground.chain }], guard := none }) rfl (fun K' hK' => ?_) ?_
          · have kBw587 := Kw585.lt
            have wBw587 := HB586.size
            go_simp
            refine (gridsOf_ok u n _ hu hn).mono ?_
            rintro e w587 ⟨v, rfl, Lw587, HB588'⟩
            have HB588 := HB586.trans (HB588'.mono HB586.size)
            have Tw587 := RBlater Tw585 HB588'
            have Kw587 := Kw585.later HB588'
            have Zw587 := Zw585.later HB588'
            refine hK'.out _ _ HB588 (fun _ => ?_)
            clear hK' K'
            try simp only [Act.put, List.setIfInBounds_toArray, List.set_cons_zero, List.set_cons_succ]
            refine wpAnyH_ready (rs := [7]) (by kernel_rfl) (by simp) ?_
            refine AllReadyH.cons (o := { dst := some 5, op := Op.alloc 119, type := 0, pos := "l6_aes.go:225", after := #[], guard := none }) rfl (fun K' hK' => ?_) AllReadyH.nil
            go_simp
            have HB590 := HB588.alloc HB588.size (.cells #[.int .u8 0, .int .u8 0, .int .u8 0, .int .u8 0, .int .u8 0, .int .u8 0, .int .u8 0, .int .u8 0, .int .u8 0, .int .u8 0, .int .u8 0, .int .u8 0, .int .u8 0, .int .u8 0, .int .u8 0, .int .u8 0] 119)
            have aBx589 := HB588.size
            have nex589 : ∀ g, v.ownBlock = some g → g ≠ w587.heap.size := fun g hg => by have := (owns_own Lw587 g hg).2; omega
            have Tx589 := RBlater Tw587 (below_box _ (.cells #[.int .u8 0, .int .u8 0, .int .u8 0, .int .u8 0, .int .u8 0, .int .u8 0, .int .u8 0, .int .u8 0, .int .u8 0, .int .u8 0, .int .u8 0, .int .u8 0, .int .u8 0, .int .u8 0, .int .u8 0, .int .u8 0] 119))
            have Kx589 := Kw587.later (below_box _ (.cells #[.int .u8 0, .int .u8 0, .int .u8 0, .int .u8 0, .int .u8 0, .int .u8 0, .int .u8 0, .int .u8 0, .int .u8 0, .int .u8 0, .int .u8 0, .int .u8 0, .int .u8 0, .int .u8 0, .int .u8 0, .int .u8 0] 119))
            have Zx589 := Zw587.later (below_box _ (.cells #[.int .u8 0, .int .u8 0, .int .u8 0, .int .u8 0, .int .u8 0, .int .u8 0, .int .u8 0, .int .u8 0, .int .u8 0, .int .u8 0, .int .u8 0, .int .u8 0, .int .u8 0, .int .u8 0, .int .u8 0, .int .u8 0] 119))
            have Lx589 := owns_below Lw587 (below_box _ (.cells #[.int .u8 0, .int .u8 0, .int .u8 0, .int .u8 0, .int .u8 0, .int .u8 0, .int .u8 0, .int .u8 0, .int .u8 0, .int .u8 0, .int .u8 0, .int .u8 0, .int .u8 0, .int .u8 0, .int .u8 0, .int .u8 0] 119))
            have Rx589 : RB (w587.alloc (.cells #[.int .u8 0, .int .u8 0, .int .u8 0, .int .u8 0, .int .u8 0, .int .u8 0, .int .u8 0, .int .u8 0, .int .u8 0, .int .u8 0, .int .u8 0, .int .u8 0, .int .u8 0, .int .u8 0, .int .u8 0, .int .u8 0] 119)) w587.heap.size 16 119 (fun _ => 0) := by
              rw [zeroG]; exact RB.new w587 16 _ _
            refine hK'.out _ _ HB590 (fun _ => ?_)
            clear hK' K'
            try simp only [Act.put, List.setIfInBounds_toArray, List.set_cons_zero, List.set_cons_succ]
            obtain ⟨HS591, HS591r⟩ := HS.start (cap := cap) HB590 Zx589 Tx589 Kx589 Rx589 Lx589 wBw587 kBw587 nex589 cBx581 aBx589
            refine wpAnyH_ready (rs := [8]) (by kernel_rfl) (by simp) ?_
            refine AllReadyH.cons (o := { dst := none, op := Op.store 116 (Operand.tmp 4) (Operand.tmp 10), type := 0, pos := "l6_aes.go:225", after := #[{ on := 6, ground := Ground.data }, { on := 1, ground := Ground.data }, { on := 5, ground := Ground.chain }, { on := 0, ground := Ground.phase }, { on := 1, ground := Ground.phase }, { on := 2, ground := Ground.textOnly Departure.lateStores }, { on := 3, ground := Ground.textOnly Departure.lateStoresUnsure }, { on := 4, ground := Ground.textOnly Departure.lateStores }, { on := 5, ground := Ground.textOnly Departure.lateStoresUnsure }, { on := 6, ground := Ground.phase }, { on := 7, ground := Ground.phase }], guard := none }) rfl (fun K' hK' => ?_) AllReadyH.nil
            rw [if_pos (by rfl)]
            refine wp_store_row 116 _ _ rfl _ #[.pointer (some ⟨gt, 0, none⟩), .slice (some ⟨gk, 0, none⟩) 11 cap] rfl rfl 116 _ Zx589 sizeC rfl (oneC _ _ _ _) ?_
            refine hK'.out _ _ HS591.bel (fun _ => ?_)
            clear hK' K'
            try simp only [Act.put, List.setIfInBounds_toArray, List.set_cons_zero, List.set_cons_succ]
            refine wpAnyH_ready (rs := [9]) (by kernel_rfl) (by simp) ?_
            refine AllReadyH.cons (o := { dst := none, op := Op.store 119 (Operand.tmp 5) (Operand.tmp 12), type := 0, pos := "l6_aes.go:225", after := #[{ on := 7, ground := Ground.data }, { on := 3, ground := Ground.data }, { on := 8, ground := Ground.chain }, { on := 0, ground := Ground.phase }, { on := 1, ground := Ground.phase }, { on := 2, ground := Ground.phase }, { on := 3, ground := Ground.phase }, { on := 4, ground := Ground.textOnly Departure.lateStores }, { on := 5, ground := Ground.textOnly Departure.lateStoresUnsure }, { on := 6, ground := Ground.phase }, { on := 7, ground := Ground.phase }, { on := 8, ground := Ground.phase }], guard := none }) rfl (fun K' hK' => ?_) AllReadyH.nil
            rw [if_pos (by rfl)]
            refine wp_store_row 119 _ _ rfl _ (rC 16 (bn t)) rfl rfl 119 _ HS591r sizeG rfl (rC_one _ _) ?_
            have HS591a := HS591.setA (bn t)
            refine hK'.out _ _ HS591a.bel (fun _ => ?_)
            clear hK' K'
            try simp only [Act.put, List.setIfInBounds_toArray, List.set_cons_zero, List.set_cons_succ]
            refine wpAnyH_ready (rs := [10]) (by kernel_rfl) (by simp) ?_
            refine AllReadyH.cons (o := { dst := some 6, op := Op.assign (Operand.tmp 14), type := 114, pos := "l6_aes.go:225", after := #[{ on := 5, ground := Ground.data }, { on := 9, ground := Ground.chain }, { on := 0, ground := Ground.phase }, { on := 1, ground := Ground.phase }, { on := 2, ground := Ground.phase }, { on := 3, ground := Ground.phase }, { on := 4, ground := Ground.phase }, { on := 5, ground := Ground.phase }, { on := 6, ground := Ground.phase }, { on := 7, ground := Ground.phase }, { on := 8, ground := Ground.phase }, { on := 9, ground := Ground.phase }], guard := none }) rfl (fun K' hK' => ?_) AllReadyH.nil
            go_simp
            refine hK'.out _ _ HS591a.bel (fun _ => ?_)
            clear hK' K'
            try simp only [Act.put, List.setIfInBounds_toArray, List.set_cons_zero, List.set_cons_succ]
            refine wpAnyH_done (by kernel_rfl) ?_ _
            exact ⟨_, gt, gk, cap, _, v, _, rfl, HS591a⟩
          refine AllReadyH.cons (o := { dst := some 5, op := Op.alloc 119, type := 0, pos := "l6_aes.go:225", after := #[], guard := none }) rfl (fun K' hK' => ?_) AllReadyH.nil
          go_simp
          have HB593 := HB586.alloc HB586.size (.cells #[.int .u8 0, .int .u8 0, .int .u8 0, .int .u8 0, .int .u8 0, .int .u8 0, .int .u8 0, .int .u8 0, .int .u8 0, .int .u8 0, .int .u8 0, .int .u8 0, .int .u8 0, .int .u8 0, .int .u8 0, .int .u8 0] 119)
          have aBx592 := HB586.size
          have Tx592 := RBlater Tw585 (below_box _ (.cells #[.int .u8 0, .int .u8 0, .int .u8 0, .int .u8 0, .int .u8 0, .int .u8 0, .int .u8 0, .int .u8 0, .int .u8 0, .int .u8 0, .int .u8 0, .int .u8 0, .int .u8 0, .int .u8 0, .int .u8 0, .int .u8 0] 119))
          have Kx592 := Kw585.later (below_box _ (.cells #[.int .u8 0, .int .u8 0, .int .u8 0, .int .u8 0, .int .u8 0, .int .u8 0, .int .u8 0, .int .u8 0, .int .u8 0, .int .u8 0, .int .u8 0, .int .u8 0, .int .u8 0, .int .u8 0, .int .u8 0, .int .u8 0] 119))
          have Zx592 := Zw585.later (below_box _ (.cells #[.int .u8 0, .int .u8 0, .int .u8 0, .int .u8 0, .int .u8 0, .int .u8 0, .int .u8 0, .int .u8 0, .int .u8 0, .int .u8 0, .int .u8 0, .int .u8 0, .int .u8 0, .int .u8 0, .int .u8 0, .int .u8 0] 119))
          have Rx592 : RB (w585.alloc (.cells #[.int .u8 0, .int .u8 0, .int .u8 0, .int .u8 0, .int .u8 0, .int .u8 0, .int .u8 0, .int .u8 0, .int .u8 0, .int .u8 0, .int .u8 0, .int .u8 0, .int .u8 0, .int .u8 0, .int .u8 0, .int .u8 0] 119)) w585.heap.size 16 119 (fun _ => 0) := by
            rw [zeroG]; exact RB.new w585 16 _ _
          refine hK'.out _ _ HB593 (fun _ => ?_)
          clear hK' K'
          try simp only [Act.put, List.setIfInBounds_toArray, List.set_cons_zero, List.set_cons_succ]
          refine wpAnyH_ready (rs := [5]) (by kernel_rfl) (by simp) ?_
          refine AllReadyH.cons (o := { dst := some 14, op := Op.call { callee := Callee.value (Operand.func 99), args := #[Operand.tmp 13], argTypes := #[9] }, type := 114, pos := "l6_aes.go:225", after := #[{ on := 4, ground := Ground.data }, { on := 3, ground := Ground.chain }], guard := none }) rfl (fun K' hK' => ?_) AllReadyH.nil
          have kBw594 := Kx592.lt
          have aLw594 := Rx592.lt
          have wBw594 := HB593.size
          go_simp
          refine (gridsOf_ok u n _ hu hn).mono ?_
          rintro e w594 ⟨v, rfl, Lw594, HB595'⟩
          have HB595 := HB593.trans (HB595'.mono HB593.size)
          have new594 : ∀ g, v.ownBlock = some g → g ≠ w585.heap.size := fun g hg => by have := (owns_own Lw594 g hg).1; omega
          have Tw594 := RBlater Tx592 HB595'
          have Kw594 := Kx592.later HB595'
          have Rw594 := RBlater Rx592 HB595'
          have Zw594 := Zx592.later HB595'
          refine hK'.out _ _ HB595 (fun _ => ?_)
          clear hK' K'
          try simp only [Act.put, List.setIfInBounds_toArray, List.set_cons_zero, List.set_cons_succ]
          obtain ⟨HS596, HS596r⟩ := HS.start (cap := cap) HB595 Zw594 Tw594 Kw594 Rw594 Lw594 wBw594 kBw594 new594 cBx581 aBx592
          refine wpAnyH_ready (rs := [8]) (by kernel_rfl) (by simp) ?_
          refine AllReadyH.cons (o := { dst := none, op := Op.store 116 (Operand.tmp 4) (Operand.tmp 10), type := 0, pos := "l6_aes.go:225", after := #[{ on := 6, ground := Ground.data }, { on := 1, ground := Ground.data }, { on := 5, ground := Ground.chain }, { on := 0, ground := Ground.phase }, { on := 1, ground := Ground.phase }, { on := 2, ground := Ground.textOnly Departure.lateStores }, { on := 3, ground := Ground.textOnly Departure.lateStoresUnsure }, { on := 4, ground := Ground.textOnly Departure.lateStores }, { on := 5, ground := Ground.textOnly Departure.lateStoresUnsure }, { on := 6, ground := Ground.phase }, { on := 7, ground := Ground.phase }], guard := none }) rfl (fun K' hK' => ?_) AllReadyH.nil
          rw [if_pos (by rfl)]
          refine wp_store_row 116 _ _ rfl _ #[.pointer (some ⟨gt, 0, none⟩), .slice (some ⟨gk, 0, none⟩) 11 cap] rfl rfl 116 _ Zw594 sizeC rfl (oneC _ _ _ _) ?_
          refine hK'.out _ _ HS596.bel (fun _ => ?_)
          clear hK' K'
          try simp only [Act.put, List.setIfInBounds_toArray, List.set_cons_zero, List.set_cons_succ]
          refine wpAnyH_ready (rs := [9]) (by kernel_rfl) (by simp) ?_
          refine AllReadyH.cons (o := { dst := none, op := Op.store 119 (Operand.tmp 5) (Operand.tmp 12), type := 0, pos := "l6_aes.go:225", after := #[{ on := 7, ground := Ground.data }, { on := 3, ground := Ground.data }, { on := 8, ground := Ground.chain }, { on := 0, ground := Ground.phase }, { on := 1, ground := Ground.phase }, { on := 2, ground := Ground.phase }, { on := 3, ground := Ground.phase }, { on := 4, ground := Ground.textOnly Departure.lateStores }, { on := 5, ground := Ground.textOnly Departure.lateStoresUnsure }, { on := 6, ground := Ground.phase }, { on := 7, ground := Ground.phase }, { on := 8, ground := Ground.phase }], guard := none }) rfl (fun K' hK' => ?_) AllReadyH.nil
          rw [if_pos (by rfl)]
          refine wp_store_row 119 _ _ rfl _ (rC 16 (bn t)) rfl rfl 119 _ HS596r sizeG rfl (rC_one _ _) ?_
          have HS596a := HS596.setA (bn t)
          refine hK'.out _ _ HS596a.bel (fun _ => ?_)
          clear hK' K'
          try simp only [Act.put, List.setIfInBounds_toArray, List.set_cons_zero, List.set_cons_succ]
          refine wpAnyH_ready (rs := [10]) (by kernel_rfl) (by simp) ?_
          refine AllReadyH.cons (o := { dst := some 6, op := Op.assign (Operand.tmp 14), type := 114, pos := "l6_aes.go:225", after := #[{ on := 5, ground := Ground.data }, { on := 9, ground := Ground.chain }, { on := 0, ground := Ground.phase }, { on := 1, ground := Ground.phase }, { on := 2, ground := Ground.phase }, { on := 3, ground := Ground.phase }, { on := 4, ground := Ground.phase }, { on := 5, ground := Ground.phase }, { on := 6, ground := Ground.phase }, { on := 7, ground := Ground.phase }, { on := 8, ground := Ground.phase }, { on := 9, ground := Ground.phase }], guard := none }) rfl (fun K' hK' => ?_) AllReadyH.nil
          go_simp
          refine hK'.out _ _ HS596a.bel (fun _ => ?_)
          clear hK' K'
          try simp only [Act.put, List.setIfInBounds_toArray, List.set_cons_zero, List.set_cons_succ]
          refine wpAnyH_done (by kernel_rfl) ?_ _
          exact ⟨_, gt, gk, cap, _, v, _, rfl, HS596a⟩
        refine AllReadyH.cons (o := { dst := some 5, op := Op.alloc 119, type := 0, pos := "l6_aes.go:225", after := #[], guard := none }) rfl (fun K' hK' => ?_) AllReadyH.nil
        go_simp
        have HB598 := HB584.alloc HB584.size (.cells #[.int .u8 0, .int .u8 0, .int .u8 0, .int .u8 0, .int .u8 0, .int .u8 0, .int .u8 0, .int .u8 0, .int .u8 0, .int .u8 0, .int .u8 0, .int .u8 0, .int .u8 0, .int .u8 0, .int .u8 0, .int .u8 0] 119)
        have aBx597 := HB584.size
        have Tx597 := RBlater Tw583 (below_box _ (.cells #[.int .u8 0, .int .u8 0, .int .u8 0, .int .u8 0, .int .u8 0, .int .u8 0, .int .u8 0, .int .u8 0, .int .u8 0, .int .u8 0, .int .u8 0, .int .u8 0, .int .u8 0, .int .u8 0, .int .u8 0, .int .u8 0] 119))
        have Kx597 := Kw583.later (below_box _ (.cells #[.int .u8 0, .int .u8 0, .int .u8 0, .int .u8 0, .int .u8 0, .int .u8 0, .int .u8 0, .int .u8 0, .int .u8 0, .int .u8 0, .int .u8 0, .int .u8 0, .int .u8 0, .int .u8 0, .int .u8 0, .int .u8 0] 119))
        have Zx597 := Zw583.later (below_box _ (.cells #[.int .u8 0, .int .u8 0, .int .u8 0, .int .u8 0, .int .u8 0, .int .u8 0, .int .u8 0, .int .u8 0, .int .u8 0, .int .u8 0, .int .u8 0, .int .u8 0, .int .u8 0, .int .u8 0, .int .u8 0, .int .u8 0] 119))
        have Rx597 : RB (w583.alloc (.cells #[.int .u8 0, .int .u8 0, .int .u8 0, .int .u8 0, .int .u8 0, .int .u8 0, .int .u8 0, .int .u8 0, .int .u8 0, .int .u8 0, .int .u8 0, .int .u8 0, .int .u8 0, .int .u8 0, .int .u8 0, .int .u8 0] 119)) w583.heap.size 16 119 (fun _ => 0) := by
          rw [zeroG]; exact RB.new w583 16 _ _
        refine hK'.out _ _ HB598 (fun _ => ?_)
        clear hK' K'
        try simp only [Act.put, List.setIfInBounds_toArray, List.set_cons_zero, List.set_cons_succ]
        refine wpAnyH_ready (rs := [3]) (by kernel_rfl) (by simp) ?_
        refine AllReadyH.cons (o := { dst := some 12, op := Op.call { callee := Callee.value (Operand.func 98), args := #[Operand.tmp 11], argTypes := #[9] }, type := 119, pos := "l6_aes.go:225", after := #[{ on := 2, ground := Ground.data }, { on := 1, ground := Ground.chain }], guard := none }) rfl (fun K' hK' => ?_) AllReadyH.nil
        go_simp
        refine (gridOf_ok t _ ht).mono ?_
        rintro e w599 ⟨rfl, HB600'⟩
        have HB600 := HB598.trans (HB600'.mono HB598.size)
        have Tw599 := RBlater Tx597 HB600'
        have Kw599 := Kx597.later HB600'
        have Rw599 := RBlater Rx597 HB600'
        have Zw599 := Zx597.later HB600'
        refine hK'.out _ _ HB600 (fun _ => ?_)
        clear hK' K'
        try simp only [Act.put, List.setIfInBounds_toArray, List.set_cons_zero, List.set_cons_succ]
        refine wpAnyH_ready (rs := [5]) (by kernel_rfl) (by simp) ?_
        refine AllReadyH.cons (o := { dst := some 14, op := Op.call { callee := Callee.value (Operand.func 99), args := #[Operand.tmp 13], argTypes := #[9] }, type := 114, pos := "l6_aes.go:225", after := #[{ on := 4, ground := Ground.data }, { on := 3, ground := Ground.chain }], guard := none }) rfl (fun K' hK' => ?_) AllReadyH.nil
        have kBw601 := Kw599.lt
        have aLw601 := Rw599.lt
        have wBw601 := HB600.size
        go_simp
        refine (gridsOf_ok u n _ hu hn).mono ?_
        rintro e w601 ⟨v, rfl, Lw601, HB602'⟩
        have HB602 := HB600.trans (HB602'.mono HB600.size)
        have new601 : ∀ g, v.ownBlock = some g → g ≠ w583.heap.size := fun g hg => by have := (owns_own Lw601 g hg).1; omega
        have Tw601 := RBlater Tw599 HB602'
        have Kw601 := Kw599.later HB602'
        have Rw601 := RBlater Rw599 HB602'
        have Zw601 := Zw599.later HB602'
        refine hK'.out _ _ HB602 (fun _ => ?_)
        clear hK' K'
        try simp only [Act.put, List.setIfInBounds_toArray, List.set_cons_zero, List.set_cons_succ]
        obtain ⟨HS603, HS603r⟩ := HS.start (cap := cap) HB602 Zw601 Tw601 Kw601 Rw601 Lw601 wBw601 kBw601 new601 cBx581 aBx597
        refine wpAnyH_ready (rs := [8]) (by kernel_rfl) (by simp) ?_
        refine AllReadyH.cons (o := { dst := none, op := Op.store 116 (Operand.tmp 4) (Operand.tmp 10), type := 0, pos := "l6_aes.go:225", after := #[{ on := 6, ground := Ground.data }, { on := 1, ground := Ground.data }, { on := 5, ground := Ground.chain }, { on := 0, ground := Ground.phase }, { on := 1, ground := Ground.phase }, { on := 2, ground := Ground.textOnly Departure.lateStores }, { on := 3, ground := Ground.textOnly Departure.lateStoresUnsure }, { on := 4, ground := Ground.textOnly Departure.lateStores }, { on := 5, ground := Ground.textOnly Departure.lateStoresUnsure }, { on := 6, ground := Ground.phase }, { on := 7, ground := Ground.phase }], guard := none }) rfl (fun K' hK' => ?_) AllReadyH.nil
        rw [if_pos (by rfl)]
        refine wp_store_row 116 _ _ rfl _ #[.pointer (some ⟨gt, 0, none⟩), .slice (some ⟨gk, 0, none⟩) 11 cap] rfl rfl 116 _ Zw601 sizeC rfl (oneC _ _ _ _) ?_
        refine hK'.out _ _ HS603.bel (fun _ => ?_)
        clear hK' K'
        try simp only [Act.put, List.setIfInBounds_toArray, List.set_cons_zero, List.set_cons_succ]
        refine wpAnyH_ready (rs := [9]) (by kernel_rfl) (by simp) ?_
        refine AllReadyH.cons (o := { dst := none, op := Op.store 119 (Operand.tmp 5) (Operand.tmp 12), type := 0, pos := "l6_aes.go:225", after := #[{ on := 7, ground := Ground.data }, { on := 3, ground := Ground.data }, { on := 8, ground := Ground.chain }, { on := 0, ground := Ground.phase }, { on := 1, ground := Ground.phase }, { on := 2, ground := Ground.phase }, { on := 3, ground := Ground.phase }, { on := 4, ground := Ground.textOnly Departure.lateStores }, { on := 5, ground := Ground.textOnly Departure.lateStoresUnsure }, { on := 6, ground := Ground.phase }, { on := 7, ground := Ground.phase }, { on := 8, ground := Ground.phase }], guard := none }) rfl (fun K' hK' => ?_) AllReadyH.nil
        rw [if_pos (by rfl)]
        refine wp_store_row 119 _ _ rfl _ (rC 16 (bn t)) rfl rfl 119 _ HS603r sizeG rfl (rC_one _ _) ?_
        have HS603a := HS603.setA (bn t)
        refine hK'.out _ _ HS603a.bel (fun _ => ?_)
        clear hK' K'
        try simp only [Act.put, List.setIfInBounds_toArray, List.set_cons_zero, List.set_cons_succ]
        refine wpAnyH_ready (rs := [10]) (by kernel_rfl) (by simp) ?_
        refine AllReadyH.cons (o := { dst := some 6, op := Op.assign (Operand.tmp 14), type := 114, pos := "l6_aes.go:225", after := #[{ on := 5, ground := Ground.data }, { on := 9, ground := Ground.chain }, { on := 0, ground := Ground.phase }, { on := 1, ground := Ground.phase }, { on := 2, ground := Ground.phase }, { on := 3, ground := Ground.phase }, { on := 4, ground := Ground.phase }, { on := 5, ground := Ground.phase }, { on := 6, ground := Ground.phase }, { on := 7, ground := Ground.phase }, { on := 8, ground := Ground.phase }, { on := 9, ground := Ground.phase }], guard := none }) rfl (fun K' hK' => ?_) AllReadyH.nil
        go_simp
        refine hK'.out _ _ HS603a.bel (fun _ => ?_)
        clear hK' K'
        try simp only [Act.put, List.setIfInBounds_toArray, List.set_cons_zero, List.set_cons_succ]
        refine wpAnyH_done (by kernel_rfl) ?_ _
        exact ⟨_, gt, gk, cap, _, v, _, rfl, HS603a⟩
      refine AllReadyH.cons (o := { dst := some 5, op := Op.alloc 119, type := 0, pos := "l6_aes.go:225", after := #[], guard := none }) rfl (fun K' hK' => ?_) AllReadyH.nil
      go_simp
      have HB605 := HB582.alloc HB582.size (.cells #[.int .u8 0, .int .u8 0, .int .u8 0, .int .u8 0, .int .u8 0, .int .u8 0, .int .u8 0, .int .u8 0, .int .u8 0, .int .u8 0, .int .u8 0, .int .u8 0, .int .u8 0, .int .u8 0, .int .u8 0, .int .u8 0] 119)
      have aBx604 := HB582.size
      have Zx604 := Zx581.later (below_box _ (.cells #[.int .u8 0, .int .u8 0, .int .u8 0, .int .u8 0, .int .u8 0, .int .u8 0, .int .u8 0, .int .u8 0, .int .u8 0, .int .u8 0, .int .u8 0, .int .u8 0, .int .u8 0, .int .u8 0, .int .u8 0, .int .u8 0] 119))
      have Rx604 : RB ((w.drew.alloc (.cells #[.pointer none, .slice none 0 0] 116)).alloc (.cells #[.int .u8 0, .int .u8 0, .int .u8 0, .int .u8 0, .int .u8 0, .int .u8 0, .int .u8 0, .int .u8 0, .int .u8 0, .int .u8 0, .int .u8 0, .int .u8 0, .int .u8 0, .int .u8 0, .int .u8 0, .int .u8 0] 119)) (w.drew.alloc (.cells #[.pointer none, .slice none 0 0] 116)).heap.size 16 119 (fun _ => 0) := by
        rw [zeroG]; exact RB.new (w.drew.alloc (.cells #[.pointer none, .slice none 0 0] 116)) 16 _ _
      have qx604 : (w.drew.alloc (.cells #[.pointer none, .slice none 0 0] 116)).heap.size = (w.drew.heap.size + 1) := by simp
      rw [qx604] at Rx604 aBx604
      refine hK'.out _ _ HB605 (fun _ => ?_)
      clear hK' K'
      try simp only [Act.put, List.setIfInBounds_toArray, List.set_cons_zero, List.set_cons_succ]
      refine wpAnyH_ready (rs := [1]) (by kernel_rfl) (by simp) ?_
      refine AllReadyH.cons (o := { dst := some 10, op := Op.call { callee := Callee.value (Operand.func 97), args := #[Operand.tmp 9], argTypes := #[9] }, type := 116, pos := "l6_aes.go:225", after := #[{ on := 0, ground := Ground.data }], guard := none }) rfl (fun K' hK' => ?_) AllReadyH.nil
      go_simp
      refine (cipherOf_ok s _ hs).mono ?_
      rintro e w606 ⟨gt, gk, cap, rfl, Tw606, Kw606, HB607'⟩
      have HB607 := HB605.trans (HB607'.mono HB605.size)
      have Rw606 := RBlater Rx604 HB607'
      have Zw606 := Zx604.later HB607'
      refine hK'.out _ _ HB607 (fun _ => ?_)
      clear hK' K'
      try simp only [Act.put, List.setIfInBounds_toArray, List.set_cons_zero, List.set_cons_succ]
      refine wpAnyH_ready (rs := [3]) (by kernel_rfl) (by simp) ?_
      refine AllReadyH.cons (o := { dst := some 12, op := Op.call { callee := Callee.value (Operand.func 98), args := #[Operand.tmp 11], argTypes := #[9] }, type := 119, pos := "l6_aes.go:225", after := #[{ on := 2, ground := Ground.data }, { on := 1, ground := Ground.chain }], guard := none }) rfl (fun K' hK' => ?_) AllReadyH.nil
      go_simp
      refine (gridOf_ok t _ ht).mono ?_
      rintro e w608 ⟨rfl, HB609'⟩
      have HB609 := HB607.trans (HB609'.mono HB607.size)
      have Tw608 := RBlater Tw606 HB609'
      have Kw608 := Kw606.later HB609'
      have Rw608 := RBlater Rw606 HB609'
      have Zw608 := Zw606.later HB609'
      refine hK'.out _ _ HB609 (fun _ => ?_)
      clear hK' K'
      try simp only [Act.put, List.setIfInBounds_toArray, List.set_cons_zero, List.set_cons_succ]
      refine wpAnyH_ready (rs := [5]) (by kernel_rfl) (by simp) ?_
      refine AllReadyH.cons (o := { dst := some 14, op := Op.call { callee := Callee.value (Operand.func 99), args := #[Operand.tmp 13], argTypes := #[9] }, type := 114, pos := "l6_aes.go:225", after := #[{ on := 4, ground := Ground.data }, { on := 3, ground := Ground.chain }], guard := none }) rfl (fun K' hK' => ?_) AllReadyH.nil
      have kBw610 := Kw608.lt
      have aLw610 := Rw608.lt
      have wBw610 := HB609.size
      go_simp
      refine (gridsOf_ok u n _ hu hn).mono ?_
      rintro e w610 ⟨v, rfl, Lw610, HB611'⟩
      have HB611 := HB609.trans (HB611'.mono HB609.size)
      have new610 : ∀ g, v.ownBlock = some g → g ≠ (w.drew.heap.size + 1) := fun g hg => by have := (owns_own Lw610 g hg).1; omega
      have Tw610 := RBlater Tw608 HB611'
      have Kw610 := Kw608.later HB611'
      have Rw610 := RBlater Rw608 HB611'
      have Zw610 := Zw608.later HB611'
      refine hK'.out _ _ HB611 (fun _ => ?_)
      clear hK' K'
      try simp only [Act.put, List.setIfInBounds_toArray, List.set_cons_zero, List.set_cons_succ]
      obtain ⟨HS612, HS612r⟩ := HS.start (cap := cap) HB611 Zw610 Tw610 Kw610 Rw610 Lw610 wBw610 kBw610 new610 cBx581 aBx604
      refine wpAnyH_ready (rs := [8]) (by kernel_rfl) (by simp) ?_
      refine AllReadyH.cons (o := { dst := none, op := Op.store 116 (Operand.tmp 4) (Operand.tmp 10), type := 0, pos := "l6_aes.go:225", after := #[{ on := 6, ground := Ground.data }, { on := 1, ground := Ground.data }, { on := 5, ground := Ground.chain }, { on := 0, ground := Ground.phase }, { on := 1, ground := Ground.phase }, { on := 2, ground := Ground.textOnly Departure.lateStores }, { on := 3, ground := Ground.textOnly Departure.lateStoresUnsure }, { on := 4, ground := Ground.textOnly Departure.lateStores }, { on := 5, ground := Ground.textOnly Departure.lateStoresUnsure }, { on := 6, ground := Ground.phase }, { on := 7, ground := Ground.phase }], guard := none }) rfl (fun K' hK' => ?_) AllReadyH.nil
      rw [if_pos (by rfl)]
      refine wp_store_row 116 _ _ rfl _ #[.pointer (some ⟨gt, 0, none⟩), .slice (some ⟨gk, 0, none⟩) 11 cap] rfl rfl 116 _ Zw610 sizeC rfl (oneC _ _ _ _) ?_
      refine hK'.out _ _ HS612.bel (fun _ => ?_)
      clear hK' K'
      try simp only [Act.put, List.setIfInBounds_toArray, List.set_cons_zero, List.set_cons_succ]
      refine wpAnyH_ready (rs := [9]) (by kernel_rfl) (by simp) ?_
      refine AllReadyH.cons (o := { dst := none, op := Op.store 119 (Operand.tmp 5) (Operand.tmp 12), type := 0, pos := "l6_aes.go:225", after := #[{ on := 7, ground := Ground.data }, { on := 3, ground := Ground.data }, { on := 8, ground := Ground.chain }, { on := 0, ground := Ground.phase }, { on := 1, ground := Ground.phase }, { on := 2, ground := Ground.phase }, { on := 3, ground := Ground.phase }, { on := 4, ground := Ground.textOnly Departure.lateStores }, { on := 5, ground := Ground.textOnly Departure.lateStoresUnsure }, { on := 6, ground := Ground.phase }, { on := 7, ground := Ground.phase }, { on := 8, ground := Ground.phase }], guard := none }) rfl (fun K' hK' => ?_) AllReadyH.nil
      rw [if_pos (by rfl)]
      refine wp_store_row 119 _ _ rfl _ (rC 16 (bn t)) rfl rfl 119 _ HS612r sizeG rfl (rC_one _ _) ?_
      have HS612a := HS612.setA (bn t)
      refine hK'.out _ _ HS612a.bel (fun _ => ?_)
      clear hK' K'
      try simp only [Act.put, List.setIfInBounds_toArray, List.set_cons_zero, List.set_cons_succ]
      refine wpAnyH_ready (rs := [10]) (by kernel_rfl) (by simp) ?_
      refine AllReadyH.cons (o := { dst := some 6, op := Op.assign (Operand.tmp 14), type := 114, pos := "l6_aes.go:225", after := #[{ on := 5, ground := Ground.data }, { on := 9, ground := Ground.chain }, { on := 0, ground := Ground.phase }, { on := 1, ground := Ground.phase }, { on := 2, ground := Ground.phase }, { on := 3, ground := Ground.phase }, { on := 4, ground := Ground.phase }, { on := 5, ground := Ground.phase }, { on := 6, ground := Ground.phase }, { on := 7, ground := Ground.phase }, { on := 8, ground := Ground.phase }, { on := 9, ground := Ground.phase }], guard := none }) rfl (fun K' hK' => ?_) AllReadyH.nil
      go_simp
      refine hK'.out _ _ HS612a.bel (fun _ => ?_)
      clear hK' K'
      try simp only [Act.put, List.setIfInBounds_toArray, List.set_cons_zero, List.set_cons_succ]
      refine wpAnyH_done (by kernel_rfl) ?_ _
      exact ⟨_, gt, gk, cap, _, v, _, rfl, HS612a⟩
    refine AllReadyH.cons (o := { dst := some 5, op := Op.alloc 119, type := 0, pos := "l6_aes.go:225", after := #[], guard := none }) rfl (fun K' hK' => ?_) AllReadyH.nil
    go_simp
    have HB614 := H0.alloc H0.size (.cells #[.int .u8 0, .int .u8 0, .int .u8 0, .int .u8 0, .int .u8 0, .int .u8 0, .int .u8 0, .int .u8 0, .int .u8 0, .int .u8 0, .int .u8 0, .int .u8 0, .int .u8 0, .int .u8 0, .int .u8 0, .int .u8 0] 119)
    have aBx613 := H0.size
    have Rx613 : RB (w.drew.alloc (.cells #[.int .u8 0, .int .u8 0, .int .u8 0, .int .u8 0, .int .u8 0, .int .u8 0, .int .u8 0, .int .u8 0, .int .u8 0, .int .u8 0, .int .u8 0, .int .u8 0, .int .u8 0, .int .u8 0, .int .u8 0, .int .u8 0] 119)) w.drew.heap.size 16 119 (fun _ => 0) := by
      rw [zeroG]; exact RB.new w.drew 16 _ _
    refine hK'.out _ _ HB614 (fun _ => ?_)
    clear hK' K'
    try simp only [Act.put, List.setIfInBounds_toArray, List.set_cons_zero, List.set_cons_succ]
    refine wpAnyH_ready (rs := [1, 6]) (by kernel_rfl) (by simp) ?_
    refine AllReadyH.cons (o := { dst := some 10, op := Op.call { callee := Callee.value (Operand.func 97), args := #[Operand.tmp 9], argTypes := #[9] }, type := 116, pos := "l6_aes.go:225", after := #[{ on := 0, ground := Ground.data }], guard := none }) rfl (fun K' hK' => ?_) ?_
    · go_simp
      refine (cipherOf_ok s _ hs).mono ?_
      rintro e w615 ⟨gt, gk, cap, rfl, Tw615, Kw615, HB616'⟩
      have HB616 := HB614.trans (HB616'.mono HB614.size)
      have Rw615 := RBlater Rx613 HB616'
      refine hK'.out _ _ HB616 (fun _ => ?_)
      clear hK' K'
      try simp only [Act.put, List.setIfInBounds_toArray, List.set_cons_zero, List.set_cons_succ]
      refine wpAnyH_ready (rs := [3, 6]) (by kernel_rfl) (by simp) ?_
      refine AllReadyH.cons (o := { dst := some 12, op := Op.call { callee := Callee.value (Operand.func 98), args := #[Operand.tmp 11], argTypes := #[9] }, type := 119, pos := "l6_aes.go:225", after := #[{ on := 2, ground := Ground.data }, { on := 1, ground := Ground.chain }], guard := none }) rfl (fun K' hK' => ?_) ?_
      · go_simp
        refine (gridOf_ok t _ ht).mono ?_
        rintro e w617 ⟨rfl, HB618'⟩
        have HB618 := HB616.trans (HB618'.mono HB616.size)
        have Tw617 := RBlater Tw615 HB618'
        have Kw617 := Kw615.later HB618'
        have Rw617 := RBlater Rw615 HB618'
        refine hK'.out _ _ HB618 (fun _ => ?_)
        clear hK' K'
        try simp only [Act.put, List.setIfInBounds_toArray, List.set_cons_zero, List.set_cons_succ]
        refine wpAnyH_ready (rs := [5, 6]) (by kernel_rfl) (by simp) ?_
        refine AllReadyH.cons (o := { dst := some 14, op := Op.call { callee := Callee.value (Operand.func 99), args := #[Operand.tmp 13], argTypes := #[9] }, type := 114, pos := "l6_aes.go:225", after := #[{ on := 4, ground := Ground.data }, { on := 3, ground := Ground.chain }], guard := none }) rfl (fun K' hK' => ?_) ?_
        · have kBw619 := Kw617.lt
          have aLw619 := Rw617.lt
          have wBw619 := HB618.size
          go_simp
          refine (gridsOf_ok u n _ hu hn).mono ?_
          rintro e w619 ⟨v, rfl, Lw619, HB620'⟩
          have HB620 := HB618.trans (HB620'.mono HB618.size)
          have new619 : ∀ g, v.ownBlock = some g → g ≠ w.drew.heap.size := fun g hg => by have := (owns_own Lw619 g hg).1; omega
          have Tw619 := RBlater Tw617 HB620'
          have Kw619 := Kw617.later HB620'
          have Rw619 := RBlater Rw617 HB620'
          refine hK'.out _ _ HB620 (fun _ => ?_)
          clear hK' K'
          try simp only [Act.put, List.setIfInBounds_toArray, List.set_cons_zero, List.set_cons_succ]
          refine wpAnyH_ready (rs := [6]) (by kernel_rfl) (by simp) ?_
          refine AllReadyH.cons (o := { dst := some 4, op := Op.alloc 116, type := 0, pos := "l6_aes.go:225", after := #[], guard := none }) rfl (fun K' hK' => ?_) AllReadyH.nil
          go_simp
          have HB622 := HB620.alloc HB620.size (.cells #[.pointer none, .slice none 0 0] 116)
          have cBx621 := HB620.size
          have Tx621 := RBlater Tw619 (below_box _ (.cells #[.pointer none, .slice none 0 0] 116))
          have Kx621 := Kw619.later (below_box _ (.cells #[.pointer none, .slice none 0 0] 116))
          have Rx621 := RBlater Rw619 (below_box _ (.cells #[.pointer none, .slice none 0 0] 116))
          have Lx621 := owns_below Lw619 (below_box _ (.cells #[.pointer none, .slice none 0 0] 116))
          have Zx621 := CZ.new w619
          refine hK'.out _ _ HB622 (fun _ => ?_)
          clear hK' K'
          try simp only [Act.put, List.setIfInBounds_toArray, List.set_cons_zero, List.set_cons_succ]
          obtain ⟨HS623, HS623r⟩ := HS.start (cap := cap) HB622 Zx621 Tx621 Kx621 Rx621 Lx621 wBw619 kBw619 new619 cBx621 aBx613
          refine wpAnyH_ready (rs := [8]) (by kernel_rfl) (by simp) ?_
          refine AllReadyH.cons (o := { dst := none, op := Op.store 116 (Operand.tmp 4) (Operand.tmp 10), type := 0, pos := "l6_aes.go:225", after := #[{ on := 6, ground := Ground.data }, { on := 1, ground := Ground.data }, { on := 5, ground := Ground.chain }, { on := 0, ground := Ground.phase }, { on := 1, ground := Ground.phase }, { on := 2, ground := Ground.textOnly Departure.lateStores }, { on := 3, ground := Ground.textOnly Departure.lateStoresUnsure }, { on := 4, ground := Ground.textOnly Departure.lateStores }, { on := 5, ground := Ground.textOnly Departure.lateStoresUnsure }, { on := 6, ground := Ground.phase }, { on := 7, ground := Ground.phase }], guard := none }) rfl (fun K' hK' => ?_) AllReadyH.nil
          rw [if_pos (by rfl)]
          refine wp_store_row 116 _ _ rfl _ #[.pointer (some ⟨gt, 0, none⟩), .slice (some ⟨gk, 0, none⟩) 11 cap] rfl rfl 116 _ Zx621 sizeC rfl (oneC _ _ _ _) ?_
          refine hK'.out _ _ HS623.bel (fun _ => ?_)
          clear hK' K'
          try simp only [Act.put, List.setIfInBounds_toArray, List.set_cons_zero, List.set_cons_succ]
          refine wpAnyH_ready (rs := [9]) (by kernel_rfl) (by simp) ?_
          refine AllReadyH.cons (o := { dst := none, op := Op.store 119 (Operand.tmp 5) (Operand.tmp 12), type := 0, pos := "l6_aes.go:225", after := #[{ on := 7, ground := Ground.data }, { on := 3, ground := Ground.data }, { on := 8, ground := Ground.chain }, { on := 0, ground := Ground.phase }, { on := 1, ground := Ground.phase }, { on := 2, ground := Ground.phase }, { on := 3, ground := Ground.phase }, { on := 4, ground := Ground.textOnly Departure.lateStores }, { on := 5, ground := Ground.textOnly Departure.lateStoresUnsure }, { on := 6, ground := Ground.phase }, { on := 7, ground := Ground.phase }, { on := 8, ground := Ground.phase }], guard := none }) rfl (fun K' hK' => ?_) AllReadyH.nil
          rw [if_pos (by rfl)]
          refine wp_store_row 119 _ _ rfl _ (rC 16 (bn t)) rfl rfl 119 _ HS623r sizeG rfl (rC_one _ _) ?_
          have HS623a := HS623.setA (bn t)
          refine hK'.out _ _ HS623a.bel (fun _ => ?_)
          clear hK' K'
          try simp only [Act.put, List.setIfInBounds_toArray, List.set_cons_zero, List.set_cons_succ]
          refine wpAnyH_ready (rs := [10]) (by kernel_rfl) (by simp) ?_
          refine AllReadyH.cons (o := { dst := some 6, op := Op.assign (Operand.tmp 14), type := 114, pos := "l6_aes.go:225", after := #[{ on := 5, ground := Ground.data }, { on := 9, ground := Ground.chain }, { on := 0, ground := Ground.phase }, { on := 1, ground := Ground.phase }, { on := 2, ground := Ground.phase }, { on := 3, ground := Ground.phase }, { on := 4, ground := Ground.phase }, { on := 5, ground := Ground.phase }, { on := 6, ground := Ground.phase }, { on := 7, ground := Ground.phase }, { on := 8, ground := Ground.phase }, { on := 9, ground := Ground.phase }], guard := none }) rfl (fun K' hK' => ?_) AllReadyH.nil
          go_simp
          refine hK'.out _ _ HS623a.bel (fun _ => ?_)
          clear hK' K'
          try simp only [Act.put, List.setIfInBounds_toArray, List.set_cons_zero, List.set_cons_succ]
          refine wpAnyH_done (by kernel_rfl) ?_ _
          exact ⟨_, gt, gk, cap, _, v, _, rfl, HS623a⟩
        refine AllReadyH.cons (o := { dst := some 4, op := Op.alloc 116, type := 0, pos := "l6_aes.go:225", after := #[], guard := none }) rfl (fun K' hK' => ?_) AllReadyH.nil
        go_simp
        have HB625 := HB618.alloc HB618.size (.cells #[.pointer none, .slice none 0 0] 116)
        have cBx624 := HB618.size
        have Tx624 := RBlater Tw617 (below_box _ (.cells #[.pointer none, .slice none 0 0] 116))
        have Kx624 := Kw617.later (below_box _ (.cells #[.pointer none, .slice none 0 0] 116))
        have Rx624 := RBlater Rw617 (below_box _ (.cells #[.pointer none, .slice none 0 0] 116))
        have Zx624 := CZ.new w617
        refine hK'.out _ _ HB625 (fun _ => ?_)
        clear hK' K'
        try simp only [Act.put, List.setIfInBounds_toArray, List.set_cons_zero, List.set_cons_succ]
        refine wpAnyH_ready (rs := [5]) (by kernel_rfl) (by simp) ?_
        refine AllReadyH.cons (o := { dst := some 14, op := Op.call { callee := Callee.value (Operand.func 99), args := #[Operand.tmp 13], argTypes := #[9] }, type := 114, pos := "l6_aes.go:225", after := #[{ on := 4, ground := Ground.data }, { on := 3, ground := Ground.chain }], guard := none }) rfl (fun K' hK' => ?_) AllReadyH.nil
        have kBw626 := Kx624.lt
        have aLw626 := Rx624.lt
        have wBw626 := HB625.size
        go_simp
        refine (gridsOf_ok u n _ hu hn).mono ?_
        rintro e w626 ⟨v, rfl, Lw626, HB627'⟩
        have HB627 := HB625.trans (HB627'.mono HB625.size)
        have new626 : ∀ g, v.ownBlock = some g → g ≠ w.drew.heap.size := fun g hg => by have := (owns_own Lw626 g hg).1; omega
        have Tw626 := RBlater Tx624 HB627'
        have Kw626 := Kx624.later HB627'
        have Rw626 := RBlater Rx624 HB627'
        have Zw626 := Zx624.later HB627'
        refine hK'.out _ _ HB627 (fun _ => ?_)
        clear hK' K'
        try simp only [Act.put, List.setIfInBounds_toArray, List.set_cons_zero, List.set_cons_succ]
        obtain ⟨HS628, HS628r⟩ := HS.start (cap := cap) HB627 Zw626 Tw626 Kw626 Rw626 Lw626 wBw626 kBw626 new626 cBx624 aBx613
        refine wpAnyH_ready (rs := [8]) (by kernel_rfl) (by simp) ?_
        refine AllReadyH.cons (o := { dst := none, op := Op.store 116 (Operand.tmp 4) (Operand.tmp 10), type := 0, pos := "l6_aes.go:225", after := #[{ on := 6, ground := Ground.data }, { on := 1, ground := Ground.data }, { on := 5, ground := Ground.chain }, { on := 0, ground := Ground.phase }, { on := 1, ground := Ground.phase }, { on := 2, ground := Ground.textOnly Departure.lateStores }, { on := 3, ground := Ground.textOnly Departure.lateStoresUnsure }, { on := 4, ground := Ground.textOnly Departure.lateStores }, { on := 5, ground := Ground.textOnly Departure.lateStoresUnsure }, { on := 6, ground := Ground.phase }, { on := 7, ground := Ground.phase }], guard := none }) rfl (fun K' hK' => ?_) AllReadyH.nil
        rw [if_pos (by rfl)]
        refine wp_store_row 116 _ _ rfl _ #[.pointer (some ⟨gt, 0, none⟩), .slice (some ⟨gk, 0, none⟩) 11 cap] rfl rfl 116 _ Zw626 sizeC rfl (oneC _ _ _ _) ?_
        refine hK'.out _ _ HS628.bel (fun _ => ?_)
        clear hK' K'
        try simp only [Act.put, List.setIfInBounds_toArray, List.set_cons_zero, List.set_cons_succ]
        refine wpAnyH_ready (rs := [9]) (by kernel_rfl) (by simp) ?_
        refine AllReadyH.cons (o := { dst := none, op := Op.store 119 (Operand.tmp 5) (Operand.tmp 12), type := 0, pos := "l6_aes.go:225", after := #[{ on := 7, ground := Ground.data }, { on := 3, ground := Ground.data }, { on := 8, ground := Ground.chain }, { on := 0, ground := Ground.phase }, { on := 1, ground := Ground.phase }, { on := 2, ground := Ground.phase }, { on := 3, ground := Ground.phase }, { on := 4, ground := Ground.textOnly Departure.lateStores }, { on := 5, ground := Ground.textOnly Departure.lateStoresUnsure }, { on := 6, ground := Ground.phase }, { on := 7, ground := Ground.phase }, { on := 8, ground := Ground.phase }], guard := none }) rfl (fun K' hK' => ?_) AllReadyH.nil
        rw [if_pos (by rfl)]
        refine wp_store_row 119 _ _ rfl _ (rC 16 (bn t)) rfl rfl 119 _ HS628r sizeG rfl (rC_one _ _) ?_
        have HS628a := HS628.setA (bn t)
        refine hK'.out _ _ HS628a.bel (fun _ => ?_)
        clear hK' K'
        try simp only [Act.put, List.setIfInBounds_toArray, List.set_cons_zero, List.set_cons_succ]
        refine wpAnyH_ready (rs := [10]) (by kernel_rfl) (by simp) ?_
        refine AllReadyH.cons (o := { dst := some 6, op := Op.assign (Operand.tmp 14), type := 114, pos := "l6_aes.go:225", after := #[{ on := 5, ground := Ground.data }, { on := 9, ground := Ground.chain }, { on := 0, ground := Ground.phase }, { on := 1, ground := Ground.phase }, { on := 2, ground := Ground.phase }, { on := 3, ground := Ground.phase }, { on := 4, ground := Ground.phase }, { on := 5, ground := Ground.phase }, { on := 6, ground := Ground.phase }, { on := 7, ground := Ground.phase }, { on := 8, ground := Ground.phase }, { on := 9, ground := Ground.phase }], guard := none }) rfl (fun K' hK' => ?_) AllReadyH.nil
        go_simp
        refine hK'.out _ _ HS628a.bel (fun _ => ?_)
        clear hK' K'
        try simp only [Act.put, List.setIfInBounds_toArray, List.set_cons_zero, List.set_cons_succ]
        refine wpAnyH_done (by kernel_rfl) ?_ _
        exact ⟨_, gt, gk, cap, _, v, _, rfl, HS628a⟩
      refine AllReadyH.cons (o := { dst := some 4, op := Op.alloc 116, type := 0, pos := "l6_aes.go:225", after := #[], guard := none }) rfl (fun K' hK' => ?_) AllReadyH.nil
      go_simp
      have HB630 := HB616.alloc HB616.size (.cells #[.pointer none, .slice none 0 0] 116)
      have cBx629 := HB616.size
      have Tx629 := RBlater Tw615 (below_box _ (.cells #[.pointer none, .slice none 0 0] 116))
      have Kx629 := Kw615.later (below_box _ (.cells #[.pointer none, .slice none 0 0] 116))
      have Rx629 := RBlater Rw615 (below_box _ (.cells #[.pointer none, .slice none 0 0] 116))
      have Zx629 := CZ.new w615
      refine hK'.out _ _ HB630 (fun _ => ?_)
      clear hK' K'
      try simp only [Act.put, List.setIfInBounds_toArray, List.set_cons_zero, List.set_cons_succ]
      refine wpAnyH_ready (rs := [3]) (by kernel_rfl) (by simp) ?_
      refine AllReadyH.cons (o := { dst := some 12, op := Op.call { callee := Callee.value (Operand.func 98), args := #[Operand.tmp 11], argTypes := #[9] }, type := 119, pos := "l6_aes.go:225", after := #[{ on := 2, ground := Ground.data }, { on := 1, ground := Ground.chain }], guard := none }) rfl (fun K' hK' => ?_) AllReadyH.nil
      go_simp
      refine (gridOf_ok t _ ht).mono ?_
      rintro e w631 ⟨rfl, HB632'⟩
      have HB632 := HB630.trans (HB632'.mono HB630.size)
      have Tw631 := RBlater Tx629 HB632'
      have Kw631 := Kx629.later HB632'
      have Rw631 := RBlater Rx629 HB632'
      have Zw631 := Zx629.later HB632'
      refine hK'.out _ _ HB632 (fun _ => ?_)
      clear hK' K'
      try simp only [Act.put, List.setIfInBounds_toArray, List.set_cons_zero, List.set_cons_succ]
      refine wpAnyH_ready (rs := [5]) (by kernel_rfl) (by simp) ?_
      refine AllReadyH.cons (o := { dst := some 14, op := Op.call { callee := Callee.value (Operand.func 99), args := #[Operand.tmp 13], argTypes := #[9] }, type := 114, pos := "l6_aes.go:225", after := #[{ on := 4, ground := Ground.data }, { on := 3, ground := Ground.chain }], guard := none }) rfl (fun K' hK' => ?_) AllReadyH.nil
      have kBw633 := Kw631.lt
      have aLw633 := Rw631.lt
      have wBw633 := HB632.size
      go_simp
      refine (gridsOf_ok u n _ hu hn).mono ?_
      rintro e w633 ⟨v, rfl, Lw633, HB634'⟩
      have HB634 := HB632.trans (HB634'.mono HB632.size)
      have new633 : ∀ g, v.ownBlock = some g → g ≠ w.drew.heap.size := fun g hg => by have := (owns_own Lw633 g hg).1; omega
      have Tw633 := RBlater Tw631 HB634'
      have Kw633 := Kw631.later HB634'
      have Rw633 := RBlater Rw631 HB634'
      have Zw633 := Zw631.later HB634'
      refine hK'.out _ _ HB634 (fun _ => ?_)
      clear hK' K'
      try simp only [Act.put, List.setIfInBounds_toArray, List.set_cons_zero, List.set_cons_succ]
      obtain ⟨HS635, HS635r⟩ := HS.start (cap := cap) HB634 Zw633 Tw633 Kw633 Rw633 Lw633 wBw633 kBw633 new633 cBx629 aBx613
      refine wpAnyH_ready (rs := [8]) (by kernel_rfl) (by simp) ?_
      refine AllReadyH.cons (o := { dst := none, op := Op.store 116 (Operand.tmp 4) (Operand.tmp 10), type := 0, pos := "l6_aes.go:225", after := #[{ on := 6, ground := Ground.data }, { on := 1, ground := Ground.data }, { on := 5, ground := Ground.chain }, { on := 0, ground := Ground.phase }, { on := 1, ground := Ground.phase }, { on := 2, ground := Ground.textOnly Departure.lateStores }, { on := 3, ground := Ground.textOnly Departure.lateStoresUnsure }, { on := 4, ground := Ground.textOnly Departure.lateStores }, { on := 5, ground := Ground.textOnly Departure.lateStoresUnsure }, { on := 6, ground := Ground.phase }, { on := 7, ground := Ground.phase }], guard := none }) rfl (fun K' hK' => ?_) AllReadyH.nil
      rw [if_pos (by rfl)]
      refine wp_store_row 116 _ _ rfl _ #[.pointer (some ⟨gt, 0, none⟩), .slice (some ⟨gk, 0, none⟩) 11 cap] rfl rfl 116 _ Zw633 sizeC rfl (oneC _ _ _ _) ?_
      refine hK'.out _ _ HS635.bel (fun _ => ?_)
      clear hK' K'
      try simp only [Act.put, List.setIfInBounds_toArray, List.set_cons_zero, List.set_cons_succ]
      refine wpAnyH_ready (rs := [9]) (by kernel_rfl) (by simp) ?_
      refine AllReadyH.cons (o := { dst := none, op := Op.store 119 (Operand.tmp 5) (Operand.tmp 12), type := 0, pos := "l6_aes.go:225", after := #[{ on := 7, ground := Ground.data }, { on := 3, ground := Ground.data }, { on := 8, ground := Ground.chain }, { on := 0, ground := Ground.phase }, { on := 1, ground := Ground.phase }, { on := 2, ground := Ground.phase }, { on := 3, ground := Ground.phase }, { on := 4, ground := Ground.textOnly Departure.lateStores }, { on := 5, ground := Ground.textOnly Departure.lateStoresUnsure }, { on := 6, ground := Ground.phase }, { on := 7, ground := Ground.phase }, { on := 8, ground := Ground.phase }], guard := none }) rfl (fun K' hK' => ?_) AllReadyH.nil
      rw [if_pos (by rfl)]
      refine wp_store_row 119 _ _ rfl _ (rC 16 (bn t)) rfl rfl 119 _ HS635r sizeG rfl (rC_one _ _) ?_
      have HS635a := HS635.setA (bn t)
      refine hK'.out _ _ HS635a.bel (fun _ => ?_)
      clear hK' K'
      try simp only [Act.put, List.setIfInBounds_toArray, List.set_cons_zero, List.set_cons_succ]
      refine wpAnyH_ready (rs := [10]) (by kernel_rfl) (by simp) ?_
      refine AllReadyH.cons (o := { dst := some 6, op := Op.assign (Operand.tmp 14), type := 114, pos := "l6_aes.go:225", after := #[{ on := 5, ground := Ground.data }, { on := 9, ground := Ground.chain }, { on := 0, ground := Ground.phase }, { on := 1, ground := Ground.phase }, { on := 2, ground := Ground.phase }, { on := 3, ground := Ground.phase }, { on := 4, ground := Ground.phase }, { on := 5, ground := Ground.phase }, { on := 6, ground := Ground.phase }, { on := 7, ground := Ground.phase }, { on := 8, ground := Ground.phase }, { on := 9, ground := Ground.phase }], guard := none }) rfl (fun K' hK' => ?_) AllReadyH.nil
      go_simp
      refine hK'.out _ _ HS635a.bel (fun _ => ?_)
      clear hK' K'
      try simp only [Act.put, List.setIfInBounds_toArray, List.set_cons_zero, List.set_cons_succ]
      refine wpAnyH_done (by kernel_rfl) ?_ _
      exact ⟨_, gt, gk, cap, _, v, _, rfl, HS635a⟩
    refine AllReadyH.cons (o := { dst := some 4, op := Op.alloc 116, type := 0, pos := "l6_aes.go:225", after := #[], guard := none }) rfl (fun K' hK' => ?_) AllReadyH.nil
    go_simp
    have HB637 := HB614.alloc HB614.size (.cells #[.pointer none, .slice none 0 0] 116)
    have cBx636 := HB614.size
    have Rx636 := RBlater Rx613 (below_box _ (.cells #[.pointer none, .slice none 0 0] 116))
    have qx636 : (w.drew.alloc (.cells #[.int .u8 0, .int .u8 0, .int .u8 0, .int .u8 0, .int .u8 0, .int .u8 0, .int .u8 0, .int .u8 0, .int .u8 0, .int .u8 0, .int .u8 0, .int .u8 0, .int .u8 0, .int .u8 0, .int .u8 0, .int .u8 0] 119)).heap.size = (w.drew.heap.size + 1) := by simp
    have Zx636 : CZ ((w.drew.alloc (.cells #[.int .u8 0, .int .u8 0, .int .u8 0, .int .u8 0, .int .u8 0, .int .u8 0, .int .u8 0, .int .u8 0, .int .u8 0, .int .u8 0, .int .u8 0, .int .u8 0, .int .u8 0, .int .u8 0, .int .u8 0, .int .u8 0] 119)).alloc (.cells #[.pointer none, .slice none 0 0] 116)) (w.drew.heap.size + 1) := by have := CZ.new (w.drew.alloc (.cells #[.int .u8 0, .int .u8 0, .int .u8 0, .int .u8 0, .int .u8 0, .int .u8 0, .int .u8 0, .int .u8 0, .int .u8 0, .int .u8 0, .int .u8 0, .int .u8 0, .int .u8 0, .int .u8 0, .int .u8 0, .int .u8 0] 119)); rw [qx636] at this; exact this
    rw [qx636] at cBx636
    refine hK'.out _ _ HB637 (fun _ => ?_)
    clear hK' K'
    try simp only [Act.put, List.setIfInBounds_toArray, List.set_cons_zero, List.set_cons_succ]
    refine wpAnyH_ready (rs := [1]) (by kernel_rfl) (by simp) ?_
    refine AllReadyH.cons (o := { dst := some 10, op := Op.call { callee := Callee.value (Operand.func 97), args := #[Operand.tmp 9], argTypes := #[9] }, type := 116, pos := "l6_aes.go:225", after := #[{ on := 0, ground := Ground.data }], guard := none }) rfl (fun K' hK' => ?_) AllReadyH.nil
    go_simp
    refine (cipherOf_ok s _ hs).mono ?_
    rintro e w638 ⟨gt, gk, cap, rfl, Tw638, Kw638, HB639'⟩
    have HB639 := HB637.trans (HB639'.mono HB637.size)
    have Rw638 := RBlater Rx636 HB639'
    have Zw638 := Zx636.later HB639'
    refine hK'.out _ _ HB639 (fun _ => ?_)
    clear hK' K'
    try simp only [Act.put, List.setIfInBounds_toArray, List.set_cons_zero, List.set_cons_succ]
    refine wpAnyH_ready (rs := [3]) (by kernel_rfl) (by simp) ?_
    refine AllReadyH.cons (o := { dst := some 12, op := Op.call { callee := Callee.value (Operand.func 98), args := #[Operand.tmp 11], argTypes := #[9] }, type := 119, pos := "l6_aes.go:225", after := #[{ on := 2, ground := Ground.data }, { on := 1, ground := Ground.chain }], guard := none }) rfl (fun K' hK' => ?_) AllReadyH.nil
    go_simp
    refine (gridOf_ok t _ ht).mono ?_
    rintro e w640 ⟨rfl, HB641'⟩
    have HB641 := HB639.trans (HB641'.mono HB639.size)
    have Tw640 := RBlater Tw638 HB641'
    have Kw640 := Kw638.later HB641'
    have Rw640 := RBlater Rw638 HB641'
    have Zw640 := Zw638.later HB641'
    refine hK'.out _ _ HB641 (fun _ => ?_)
    clear hK' K'
    try simp only [Act.put, List.setIfInBounds_toArray, List.set_cons_zero, List.set_cons_succ]
    refine wpAnyH_ready (rs := [5]) (by kernel_rfl) (by simp) ?_
    refine AllReadyH.cons (o := { dst := some 14, op := Op.call { callee := Callee.value (Operand.func 99), args := #[Operand.tmp 13], argTypes := #[9] }, type := 114, pos := "l6_aes.go:225", after := #[{ on := 4, ground := Ground.data }, { on := 3, ground := Ground.chain }], guard := none }) rfl (fun K' hK' => ?_) AllReadyH.nil
    have kBw642 := Kw640.lt
    have aLw642 := Rw640.lt
    have wBw642 := HB641.size
    go_simp
    refine (gridsOf_ok u n _ hu hn).mono ?_
    rintro e w642 ⟨v, rfl, Lw642, HB643'⟩
    have HB643 := HB641.trans (HB643'.mono HB641.size)
    have new642 : ∀ g, v.ownBlock = some g → g ≠ w.drew.heap.size := fun g hg => by have := (owns_own Lw642 g hg).1; omega
    have Tw642 := RBlater Tw640 HB643'
    have Kw642 := Kw640.later HB643'
    have Rw642 := RBlater Rw640 HB643'
    have Zw642 := Zw640.later HB643'
    refine hK'.out _ _ HB643 (fun _ => ?_)
    clear hK' K'
    try simp only [Act.put, List.setIfInBounds_toArray, List.set_cons_zero, List.set_cons_succ]
    obtain ⟨HS644, HS644r⟩ := HS.start (cap := cap) HB643 Zw642 Tw642 Kw642 Rw642 Lw642 wBw642 kBw642 new642 cBx636 aBx613
    refine wpAnyH_ready (rs := [8]) (by kernel_rfl) (by simp) ?_
    refine AllReadyH.cons (o := { dst := none, op := Op.store 116 (Operand.tmp 4) (Operand.tmp 10), type := 0, pos := "l6_aes.go:225", after := #[{ on := 6, ground := Ground.data }, { on := 1, ground := Ground.data }, { on := 5, ground := Ground.chain }, { on := 0, ground := Ground.phase }, { on := 1, ground := Ground.phase }, { on := 2, ground := Ground.textOnly Departure.lateStores }, { on := 3, ground := Ground.textOnly Departure.lateStoresUnsure }, { on := 4, ground := Ground.textOnly Departure.lateStores }, { on := 5, ground := Ground.textOnly Departure.lateStoresUnsure }, { on := 6, ground := Ground.phase }, { on := 7, ground := Ground.phase }], guard := none }) rfl (fun K' hK' => ?_) AllReadyH.nil
    rw [if_pos (by rfl)]
    refine wp_store_row 116 _ _ rfl _ #[.pointer (some ⟨gt, 0, none⟩), .slice (some ⟨gk, 0, none⟩) 11 cap] rfl rfl 116 _ Zw642 sizeC rfl (oneC _ _ _ _) ?_
    refine hK'.out _ _ HS644.bel (fun _ => ?_)
    clear hK' K'
    try simp only [Act.put, List.setIfInBounds_toArray, List.set_cons_zero, List.set_cons_succ]
    refine wpAnyH_ready (rs := [9]) (by kernel_rfl) (by simp) ?_
    refine AllReadyH.cons (o := { dst := none, op := Op.store 119 (Operand.tmp 5) (Operand.tmp 12), type := 0, pos := "l6_aes.go:225", after := #[{ on := 7, ground := Ground.data }, { on := 3, ground := Ground.data }, { on := 8, ground := Ground.chain }, { on := 0, ground := Ground.phase }, { on := 1, ground := Ground.phase }, { on := 2, ground := Ground.phase }, { on := 3, ground := Ground.phase }, { on := 4, ground := Ground.textOnly Departure.lateStores }, { on := 5, ground := Ground.textOnly Departure.lateStoresUnsure }, { on := 6, ground := Ground.phase }, { on := 7, ground := Ground.phase }, { on := 8, ground := Ground.phase }], guard := none }) rfl (fun K' hK' => ?_) AllReadyH.nil
    rw [if_pos (by rfl)]
    refine wp_store_row 119 _ _ rfl _ (rC 16 (bn t)) rfl rfl 119 _ HS644r sizeG rfl (rC_one _ _) ?_
    have HS644a := HS644.setA (bn t)
    refine hK'.out _ _ HS644a.bel (fun _ => ?_)
    clear hK' K'
    try simp only [Act.put, List.setIfInBounds_toArray, List.set_cons_zero, List.set_cons_succ]
    refine wpAnyH_ready (rs := [10]) (by kernel_rfl) (by simp) ?_
    refine AllReadyH.cons (o := { dst := some 6, op := Op.assign (Operand.tmp 14), type := 114, pos := "l6_aes.go:225", after := #[{ on := 5, ground := Ground.data }, { on := 9, ground := Ground.chain }, { on := 0, ground := Ground.phase }, { on := 1, ground := Ground.phase }, { on := 2, ground := Ground.phase }, { on := 3, ground := Ground.phase }, { on := 4, ground := Ground.phase }, { on := 5, ground := Ground.phase }, { on := 6, ground := Ground.phase }, { on := 7, ground := Ground.phase }, { on := 8, ground := Ground.phase }, { on := 9, ground := Ground.phase }], guard := none }) rfl (fun K' hK' => ?_) AllReadyH.nil
    go_simp
    refine hK'.out _ _ HS644a.bel (fun _ => ?_)
    clear hK' K'
    try simp only [Act.put, List.setIfInBounds_toArray, List.set_cons_zero, List.set_cons_succ]
    refine wpAnyH_done (by kernel_rfl) ?_ _
    exact ⟨_, gt, gk, cap, _, v, _, rfl, HS644a⟩
end Go.Proofs.YtefmmopkikpnhaaGreatDoor

