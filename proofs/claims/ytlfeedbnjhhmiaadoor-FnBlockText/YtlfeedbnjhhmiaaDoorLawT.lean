/- What is proved: the walk of the law FnBlockText. The conditions stand at the theorem. -/
import Derived.Test.YtlfeedbnjhhmiaaDoorBlkM
import Derived.Test.YtlfeedbnjhhmiaaDoorDrwU
import Derived.Deep.RegionHeld3
namespace Go.Proofs.YtlfeedbnjhhmiaaDoor
open Go.RowKit Go.LatT Go.BlockM Go.PlainAid Go.OpnT
set_option linter.unusedVariables false
set_option linter.unusedSimpArgs false
/-- A block lies in a block of memory. -/
structure BBox (w : World) (g : Nat) (a b : Int) : Prop where
  lt : g < w.heap.size
  c0 : w.cell? ⟨g, 0, none⟩ = some (.int .i64 a)
  c1 : w.cell? ⟨g, 1, none⟩ = some (.int .i64 b)
theorem BBox.later {w w' : World} {g : Nat} {a b : Int} (h : BBox w g a b) (hb : Below w.heap.size w w') : BBox w' g a b :=
  ⟨Nat.lt_of_lt_of_le h.lt hb.size, by rw [(bcell hb).1 _ _ h.lt]; exact h.c0, by rw [(bcell hb).1 _ _ h.lt]; exact h.c1⟩
theorem BBox.new (w : World) (a b : Int) (ty : TypeId) : BBox (w.alloc (.cells #[.int .i64 a, .int .i64 b] ty)) w.heap.size a b := ⟨by simp, by go_simp, by go_simp⟩
set_option maxHeartbeats 4000000 in
set_option maxRecDepth 100000 in
theorem walk_FnBlockText (a0 : Option Addr) (len0 cap0 : Nat) (z0 : List Int) (a1 : Option Addr) (len1 cap1 : Nat) (z1 : List Int) (w : World) (h0 : RowC w a0 len0 cap0 z0) (h1 : RowC w a1 len1 cap1 z1) (hp : Pow w) (hm : ∃ m, w.cell? ⟨0, 0, none⟩ = some (.int .i64 m)) :
    Calls Tryd.prog 4 #[.slice a0 len0 cap0, .slice a1 len1 cap1] w fun e w' => e = .returned (.bool true) ∧ Below w.heap.size w w' := by
  have hb0 : (len0 : Int) ≤ 9223372036854775807 := by
    rcases h0 with ⟨rfl, _⟩ | ⟨_, _, _, h1, h2, _⟩
    · omega
    · unfold maxLen at h2; omega
  have hb1 : (len1 : Int) ≤ 9223372036854775807 := by
    rcases h1 with ⟨rfl, _⟩ | ⟨_, _, _, h1, h2, _⟩
    · omega
    · unfold maxLen at h2; omega
  obtain ⟨m, hm⟩ := hm
  have hgl := cell_lt hm
  have R0 := hid_in h0; have R1 := hid_in h1; have HP := hid_in hp; have HM := hid_in hm
  clear h0 h1 hp hm
  by_cases hl0 : len0 ≤ 1048576
  · have hl0' : ¬ (1048576 : Int) < (len0 : Int) := by omega
    by_cases hl1 : len1 ≤ 1048576
    · have hl1' : ¬ (1048576 : Int) < (len1 : Int) := by omega
      go_enter Tryd.func4, Tryd.ntmps4
      go_wp2_with fail
      refine (drawBlockText a0 len0 cap0 z0 _ R0.out hl0).mono ?_
      rintro e w1 ⟨x, y, rfl, x0, x1, y0, y1, hb⟩
      have B1 := hid_in hb
      clear hb
      obtain ⟨v, hv⟩ : ∃ v, okB x y = v := ⟨_, rfl⟩
      have HV := hid_in hv
      obtain ⟨T, hT⟩ : ∃ T, (if okB x y then blockT x y else []) = T := ⟨_, rfl⟩
      have HT := hid_in hT
      have HL : Hid ((tx T).size ≤ 2000) := by show _ ≤ _; rw [← hT]; exact blkT_len x y
      clear hT hv
      go_wp2_with fail
      have X1 := hid_in (BBox.new w1 x y 30)
      refine (blockTextI x y _ (HP.out.later (below_later B1.out (below_box _ _))) T HT.out).mono ?_
      rintro e w2 ⟨rfl, hb⟩
      have B2 := hid_in (below_later (below_later B1.out (below_box _ _)) hb); have X2 := hid_in (X1.out.later hb)
      clear hb B1 X1
      go_wp2_with fail
      refine (blockGetN (tx T) m _ (by have := HL.out; omega) (((bcell B2.out).1 _ _ hgl).trans HM.out)).mono ?_
      rintro e w3 ⟨p, q, ok, rfl, hs, hb⟩
      have B3 := hid_in (below_later B2.out hb); have X3' := X2.out.later hb
      clear hb B2 X2
      rw [← HT.out] at hs
      obtain ⟨s1, s2⟩ := blk_write hs
      have S2 := hid_in s2
      clear hs s2
      have X3 := hid_in X3'
      obtain ⟨l0, k0, k1⟩ := X3'
      rw [HV.out] at s1
      cases v
      · subst s1
        clear S2
        go_wp2_with fail
        refine wp_region_lat (Below.refl _ _) (by kernel_rfl) (by kernel_rfl) ?_
        intro hne hcl
        repeat (go_big_quiet_step (first | (go_at_call 17; exact lat_of (blockTextS x y _ T HT.out)) | (go_at_call 18; exact lat_of (blockOkI x y _ _ HV.out)) | (go_at_call 19; exact lat_of (specOk x y _ _ HV.out))))
        refine wpQuiet_nil ?_
        intro w1 hb1
        obtain ⟨hc1, hf1⟩ := bcell hb1
        clear hne hcl
        have B4 := hid_in (below_later (below_later B3.out (below_box _ _)) hb1)
        clear hb1 hc1 hf1 B3 X3 l0 k0 k1
        go_wp2_with fail
        refine (drawBlockGet a1 len1 cap1 z1 _ (R1.out.later B4.out) hl1).mono ?_
        rintro e w5 ⟨u, rfl, hu, hb⟩
        have B5 := hid_in (below_later B4.out hb)
        clear hb B4
        go_wp2_with fail
        refine (blockGetN u m _ (by omega) (((bcell B5.out).1 _ _ hgl).trans HM.out)).mono ?_
        rintro e w6 ⟨c, d, fine, rfl, hy, hb⟩
        have B6 := hid_in (below_later B5.out hb); have HY := hid_in hy
        clear hb B5 hy
        go_wp2_with fail
        obtain ⟨l6, i6, j6⟩ : BBox (w6.alloc (Obj.cells #[.int .i64 c, .int .i64 d] 30)) w6.heap.size c d := BBox.new _ _ _ _
        have X6 := hid_in (BBox.new w6 c d 30)
        clear l6 i6 j6
        refine (blockGetSN u _ (by omega)).mono ?_
        rintro e w7 ⟨c', d', fine', rfl, hy', hb⟩
        have B7 := hid_in (below_later (below_later B6.out (below_box _ _)) hb)
        have X7' := X6.out.later hb
        have X7 := hid_in X7'
        obtain ⟨l7, i7, j7⟩ := X7'
        obtain ⟨e1, e2, e3⟩ := HY.out.one hy'
        subst e1 e2 e3
        clear hb B6 X6 hy'
        cases fine
        · go_wp2_with fail
          go_ret
          exact ⟨rfl, below_later B7.out (below_box _ _)⟩
        · obtain ⟨r1, r2⟩ := blk_read HY.out
          have r3 : u = ⟨(blockT c d).toArray⟩ := r2.symm
          have r4 : Hid ((if okB c d then blockT c d else []) = blockT c d) := by show _ = _; rw [r1]; rfl
          clear HY r2 r1
          subst r3
          go_wp2_with fail
          refine (blockTextI c d _ (HP.out.later (below_later B7.out (below_box _ _))) (blockT c d) r4.out).mono ?_
          rintro e w8 ⟨rfl, hb⟩
          have B8 := hid_in (below_later (below_later B7.out (below_box _ _)) hb)
          clear hb B7
          go_wp2_with fail
          go_ret
          exact ⟨rfl, B8.out⟩
      · subst s1
        obtain ⟨ep, eq⟩ := S2.out rfl
        have ep' := ep.symm
        have eq' := eq.symm
        clear ep eq
        subst ep' eq'
        clear S2
        go_wp2_with fail
        refine wp_region_lat (Below.refl _ _) (by kernel_rfl) (by kernel_rfl) ?_
        intro hne hcl
        repeat (go_big_quiet_step (first | (go_at_call 17; exact lat_of (blockTextS x y _ T HT.out)) | (go_at_call 18; exact lat_of (blockOkI x y _ _ HV.out)) | (go_at_call 19; exact lat_of (specOk x y _ _ HV.out))))
        refine wpQuiet_nil ?_
        intro w1 hb1
        obtain ⟨hc1, hf1⟩ := bcell hb1
        clear hne hcl
        have B4 := hid_in (below_later (below_later B3.out (below_box _ _)) hb1)
        clear hb1 hc1 hf1 B3 X3 l0 k0 k1
        go_wp2_with fail
        refine (drawBlockGet a1 len1 cap1 z1 _ (R1.out.later B4.out) hl1).mono ?_
        rintro e w5 ⟨u, rfl, hu, hb⟩
        have B5 := hid_in (below_later B4.out hb)
        clear hb B4
        go_wp2_with fail
        refine (blockGetN u m _ (by omega) (((bcell B5.out).1 _ _ hgl).trans HM.out)).mono ?_
        rintro e w6 ⟨c, d, fine, rfl, hy, hb⟩
        have B6 := hid_in (below_later B5.out hb); have HY := hid_in hy
        clear hb B5 hy
        go_wp2_with fail
        obtain ⟨l6, i6, j6⟩ : BBox (w6.alloc (Obj.cells #[.int .i64 c, .int .i64 d] 30)) w6.heap.size c d := BBox.new _ _ _ _
        have X6 := hid_in (BBox.new w6 c d 30)
        clear l6 i6 j6
        refine (blockGetSN u _ (by omega)).mono ?_
        rintro e w7 ⟨c', d', fine', rfl, hy', hb⟩
        have B7 := hid_in (below_later (below_later B6.out (below_box _ _)) hb)
        have X7' := X6.out.later hb
        have X7 := hid_in X7'
        obtain ⟨l7, i7, j7⟩ := X7'
        obtain ⟨e1, e2, e3⟩ := HY.out.one hy'
        subst e1 e2 e3
        clear hb B6 X6 hy'
        cases fine
        · go_wp2_with fail
          go_ret
          exact ⟨rfl, below_later B7.out (below_box _ _)⟩
        · obtain ⟨r1, r2⟩ := blk_read HY.out
          have r3 : u = ⟨(blockT c d).toArray⟩ := r2.symm
          have r4 : Hid ((if okB c d then blockT c d else []) = blockT c d) := by show _ = _; rw [r1]; rfl
          clear HY r2 r1
          subst r3
          go_wp2_with fail
          refine (blockTextI c d _ (HP.out.later (below_later B7.out (below_box _ _))) (blockT c d) r4.out).mono ?_
          rintro e w8 ⟨rfl, hb⟩
          have B8 := hid_in (below_later (below_later B7.out (below_box _ _)) hb)
          clear hb B7
          go_wp2_with fail
          go_ret
          exact ⟨rfl, B8.out⟩
    · have hl1' : (1048576 : Int) < (len1 : Int) := by omega
      go_enter Tryd.func4, Tryd.ntmps4
      go_wp2_with fail
      go_ret
      exact ⟨rfl, Below.refl _ _⟩
  · have hl0' : (1048576 : Int) < (len0 : Int) := by omega
    go_enter Tryd.func4, Tryd.ntmps4
    go_wp2_with fail
    go_ret
    exact ⟨rfl, Below.refl _ _⟩
end Go.Proofs.YtlfeedbnjhhmiaaDoor
