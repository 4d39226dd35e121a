/- The way down a tree, and where an address leads, in the program, as contracts. The conditions stand at each theorem. -/
import Derived.Test.YtajkaaeckmfamaaTreB
namespace Go.Proofs.Ytajkaaeckmfamaa
open Go.RowKit Go.LatT Go.BlockM Go.OpnT Go.ApdG Go.TreM
set_option linter.unusedVariables false
set_option linter.unusedSimpArgs false
def rowsP (T : Nat → Nat → Int) (a : Int) (k j : Nat) : Int := T ((nd T a k).getD 0) j
theorem rowsP_some {T : Nat → Nat → Int} {a : Int} {k i : Nat} (h : nd T a k = some i) (j : Nat) : rowsP T a k j = T i j := by unfold rowsP; rw [h]; rfl
theorem rowsP_next {T : Nat → Nat → Int} {a : Int} {k i : Nat} (h : nd T a k = some i) : flatC (rowsP T a) 3 (k + 1) = flatC (rowsP T a) 3 k ++ [.int .i64 (T i 0), .int .i64 (T i 1), .int .i64 (T i 2)] := by
  rw [flatC_succ]
  simp [List.range_succ, rowsP_some h]
structure PS (w wr : World) (T : Nat → Nat → Int) (a : Int) (p g1 cap1 i : Nat) : Prop where
  bel : Below w.heap.size w wr
  own : wr.ownsRow w.heap.size 67 3 (.slice (some ⟨g1, 0, none⟩) (p + 1) cap1) (p + 1) (flatC (rowsP T a) 3 (p + 1))
  pth : nd T a p = some i
theorem PS.later {w wr w1 : World} {T : Nat → Nat → Int} {a : Int} {p g1 cap1 i : Nat} (h : PS w wr T a p g1 cap1 i) (hb : Below wr.heap.size wr w1) : PS w w1 T a p g1 cap1 i :=
  ⟨below_later h.bel hb, owns_below h.own hb, h.pth⟩
set_option maxHeartbeats 600000 in
set_option maxRecDepth 100000 in
theorem path_any (B t g n cap : Nat) (T : Nat → Nat → Int) (f : Int → Nat → Int) (a : Int) (w : World) (a0 : 0 ≤ a) (a1 : a ≤ 4294967295) (hT : Tr w B t g n cap T) (hI : TreeIs T n f) :
    Calls Try.prog 36 #[.pointer (some ⟨t, 0, none⟩), .int .i64 a, .int .i64 32] w fun e w' => ∃ m g' cap' i, e = .returned (.slice (some ⟨g', 0, none⟩) (m + 1) cap') ∧ PS w w' T a m g' cap' i ∧ m ≤ 32 ∧ (m = 32 ∨ nd T a (m + 1) = none) := by
  have HT := hid_in hT; have HI := hid_in hI
  have c0 := hT.c0
  have lt0 := hT.lt
  have hn := hT.np
  have hn' : (0 : Int) < (n : Int) := by omega
  have k0 : w.cell? ⟨g, 0, none⟩ = _ := hT.cell 0 0 hn (by omega)
  have k1 : w.cell? ⟨g, 1, none⟩ = _ := hT.cell 0 1 hn (by omega)
  have k2 : w.cell? ⟨g, 2, none⟩ = _ := hT.cell 0 2 hn (by omega)
  clear hT hI
  have S0 : Hid (PS w (w.alloc (.cells #[.int .i64 (T 0 0), .int .i64 (T 0 1), .int .i64 (T 0 2)] 67)) T a 0 w.heap.size 1 0) := by
    refine ⟨below_box _ _, ?_, rfl⟩
    have := World.ownsRow_lit (base := w.heap.size) (e := 67) (size := 3) w #[.int .i64 (T 0 0), .int .i64 (T 0 1), .int .i64 (T 0 2)] 1 (Nat.le_refl _) (by decide) rfl
    rw [rowsP_next (show nd T a 0 = some 0 from rfl)]
    exact this
  go_enter Try.func36, Try.ntmps36
  go_wp2_with fail
  generalize (w.alloc (.cells #[.int .i64 (T 0 0), .int .i64 (T 0 1), .int .i64 (T 0 2)] 67)) = W0 at *
  generalize hsz : w.heap.size = sz at *
  go_loopw [7, 18] (fun sv v wr => ∃ (p i g1 cap1 : Nat), p ≤ 32 ∧ v = .int .i64 (p : Int) ∧ sv = .slice (some ⟨g1, 0, none⟩) (p + 1) cap1 ∧ Hid (PS w wr T a p g1 cap1 i)) (fun _ v _ => 32 - (intOf v).toNat)
  case atStart => exact ⟨0, 0, sz, 1, Nat.zero_le _, rfl, rfl, S0⟩
  case round =>
    obtain ⟨p, i, g1, cap1, hp, rfl, rfl, HS⟩ := hrel
    clear S0 k0 k1 k2 c0
    have R := hid_in (HT.out.later HS.out.bel)
    have c0 := R.out.c0
    have ltr := R.out.lt
    have lgr := R.out.glt
    by_cases hlt : p < 32
    · have hd : (p : Int) < 32 := by omega
      obtain ⟨s, hs⟩ : ∃ s, bitN a p = s := ⟨_, rfl⟩
      have hs2 : s < 2 := by rw [← hs]; exact bitN_lt a p
      have hs3 : (s : Int) < 2 := by omega
      have Hs := hid_in hs
      have hi := nd_lt HI.out a0 a1 (by omega) HS.out.pth
      have kc := own_cell HS.out.own p s (by omega) (by omega)
      have lg1 : g1 < wr.heap.size := by obtain ⟨cur, h1, _⟩ := owns_blk HS.out.own; exact (Array.getElem?_eq_some_iff.1 h1).1
      rw [rowsP_some HS.out.pth] at kc
      obtain ⟨x, hx⟩ : ∃ x, T i s = x := ⟨_, rfl⟩
      have kx := kid_lt HI.out hi hs2
      rw [hx] at kc kx
      have Hx := hid_in hx
      have hq : (p : Int) < ((p + 1 : Nat) : Int) := by omega
      clear hs hx
      by_cases hx0 : x = 0
      · subst hx0
        go_wp2_with fail
        refine wp_region_lat (Below.refl _ _) (by kernel_rfl) (by kernel_rfl) ?_
        intro hne hcl
        repeat (go_big_quiet_step (first | (go_at_call 46; exact lat_same (bit_any a p _ a0 a1 hlt s Hs.out))))
        refine wpQuiet_nil ?_
        intro w1 hb1
        obtain ⟨hc1, hf1⟩ := bcell hb1
        clear hne hcl
        go_wp2_with fail
        go_ret
        refine ⟨p, g1, cap1, i, rfl, HS.out.later hb1, by omega, .inr ?_⟩
        rw [nd_step HS.out.pth, Hs.out, Hx.out, if_pos rfl]
      · have hx1 : (x == 0) = false := beq_eq_false_iff_ne.2 hx0
        obtain ⟨y, rfl⟩ := Int.eq_ofNat_of_zero_le kx.1
        go_wp2_with fail
        refine wp_region_lat (Below.refl _ _) (by kernel_rfl) (by kernel_rfl) ?_
        intro hne hcl
        repeat (go_big_quiet_step (first | (go_at_call 46; exact lat_same (bit_any a p _ a0 a1 hlt s Hs.out))))
        refine wpQuiet_nil ?_
        intro w1 hb1
        obtain ⟨hc1, hf1⟩ := bcell hb1
        clear hne hcl
        have R1 := hid_in (R.out.later hb1)
        have Q1 := hid_in (HS.out.later hb1)
        have c01 := R1.out.c0
        have hy : y < n := by omega
        have hy' : (y : Int) < (n : Int) := by omega
        have d0 : w1.cell? ⟨g, y * 3, none⟩ = _ := own_cell R1.out.own y 0 hy (by omega)
        have d1 := own_cell R1.out.own y 1 hy (by omega)
        have d2 := own_cell R1.out.own y 2 hy (by omega)
        have pn := hid_in (show nd T a (p + 1) = some y by rw [nd_step HS.out.pth, Hs.out, Hx.out, if_neg hx0]; congr 1)
        have sz1 : w.heap.size ≤ w1.heap.size := Q1.out.bel.size
        clear hc1 hf1 hb1 kc c0
        go_wp2_with (at_builtin; refine wpG elemN rfl (.tmp 32) (.tmp 40) rfl w.heap.size (.slice (some ⟨g1, 0, none⟩) (p + 1) cap1) (p + 1) (flatC (rowsP T a) 3 (p + 1)) rfl (Q1.out.own.alloc _) ⟨w1.heap.size, 0, none⟩ 1 1 [.int .i64 (T y 0), .int .i64 (T y 1), .int .i64 (T y 2)] rfl rfl (cells_new _ _ _) (one3 _ _ _) (by omega) (by simp; omega) ?_; intro v3 w3 o3 g3 n3; obtain ⟨g4, cap4, rfl⟩ := own_form o3 (by omega); have B3 := hid_in ((grown_below g3 (by simp; omega) (fun k hk => by simp [Value.ownBlock] at hk; subst hk; exact (owns_blk Q1.out.own).choose_spec.2) : Below w.heap.size _ w3)); have O3 := hid_in o3; clear o3 g3 n3)
        refine ⟨⟨p + 1, y, g4, cap4, by omega, by simp, rfl, ?_⟩, by simp [intOf]; omega⟩
        show PS _ _ _ _ _ _ _ _
        refine ⟨(Q1.out.bel.alloc (by omega) _).trans B3.out, ?_, pn.out⟩
        rw [rowsP_next pn.out]
        exact O3.out
    · have hd : decide ((p : Int) < 32) = false := by simp; omega
      obtain rfl : p = 32 := by omega
      go_wp2_with fail
      go_ret
      exact ⟨32, g1, cap1, i, rfl, HS.out, by omega, .inl rfl⟩
end Go.Proofs.Ytajkaaeckmfamaa
