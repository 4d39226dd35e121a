/- What is proved: the contracts of FrdB, one behind the other. The conditions stand at each theorem. -/
import Derived.Test.YtefmmopkikpnhaaGreatDoorRFdA
import Derived.Test.YtefmmopkikpnhaaGreatDoorRReg
namespace Go.Proofs.YtefmmopkikpnhaaGreatDoor
open Go.RowKit Go.LatT Go.BlockM Go.PlainAid Go.OpnT Go.ApdG Go.BytM Go.AesM Go.RowQ Go.RegN
set_option linter.unusedVariables false
set_option linter.unusedSimpArgs false
/-- The class of a reader's worlds: all else is as it was, and it has gone on by a thousand a call at most. -/
def Rc (K R : Nat) (sl : Value) (p : Int) (w0 : World) (n : Nat) (w : World) : Prop := Mv R w0 w ∧ ∃ q, p ≤ q ∧ q ≤ p + 1000 * (min n K : Nat) ∧ Rdr w R sl q
theorem Rc.start {K R : Nat} {sl : Value} {p : Int} {w : World} (h : Rdr w R sl p) : Rc K R sl p w 0 w := ⟨Mv.refl _ _, p, by omega, by simp, h⟩
theorem Rdr.drew {R : Nat} {sl : Value} {p : Int} {w : World} (h : Rdr w R sl p) : Rdr w.drew R sl p := h.later ((Below.refl _ _).drew)
theorem Rc.drew {K R : Nat} {sl : Value} {p : Int} {w0 w : World} {n : Nat} (h : Rc K R sl p w0 n w) : Rc K R sl p w0 n w.drew := by
  obtain ⟨m, q, h1, h2, h3⟩ := h
  exact ⟨m.trans (Mv.of_below ((Below.refl _ _).drew)), q, h1, h2, h3.drew⟩
theorem Rc.alloc {K R : Nat} {sl : Value} {p : Int} {w0 : World} : ∀ n w o, Rc K R sl p w0 n w → Rc K R sl p w0 n (w.alloc o) := by
  intro n w o ⟨m, q, h1, h2, h3⟩
  exact ⟨m.trans (Mv.of_below (below_box _ _)), q, h1, h2, h3.later (below_box _ _)⟩
theorem Rc.size {K R : Nat} {sl : Value} {p : Int} {w0 : World} : ∀ n w, Rc K R sl p w0 n w → w0.heap.size ≤ w.heap.size := fun _ _ h => h.1.size
theorem Mv.keep {R H : Nat} {w w' : World} (h : Mv R w w') (hR : R < H) : Keep H w w' := fun g hg hl => h.block g hl (by omega)
def postPk (m : Int) (_ : FuncId) (_ : Array Value) (u : Value) : Prop := ∃ x : Int, u = .int .i64 x ∧ 0 ≤ x ∧ x < m
theorem Rc.pick {R : Nat} {sl : Value} {p m : Int} {w0 : World} {H N : Nat} (hR : R < H) (hp : 0 ≤ p) (hp' : p + 1000 * N ≤ 1099511627776) (hm : 1 ≤ m) (hm' : m ≤ 4294967296) :
    Contract Tryz.prog (Rc N R sl p w0) H N (postPk m) (fun _ _ => []) 51 #[.pointer (some ⟨R, 0, none⟩), .int .i64 m] := by
  intro k w hk ⟨mv, q, h1, h2, h3⟩ _
  refine (pickM R sl q m w h3 (by omega) (by omega) hm hm').mono ?_
  rintro e w' ⟨u, rfl, hu0, hu1, h4, h5⟩
  exact ⟨_, rfl, ⟨u, rfl, hu0, hu1⟩, ⟨mv.trans h5, q + 1, by omega, by omega, h4⟩, h5.keep hR⟩
/-- What is drawn: two keys and a text. -/
def DfG (w : World) (e : Ending) (w' : World) : Prop := ∃ k m s : ByteArray, e = .returned (.tuple #[.string k, .string m, .string s]) ∧ k.size ≤ 16 ∧ m.size ≤ 5 ∧ s.size ≤ 140 ∧ Below w.heap.size w w'
set_option maxHeartbeats 4000000 in
set_option maxRecDepth 100000 in
theorem drawFrameGet (a : Option Addr) (len cap : Nat) (z : List Int) (w : World) (h : RowC w a len cap z) (hl : len ≤ 1048576) :
    Calls Tryz.prog 22 #[.slice a len cap] w fun e w' => DfG w e w' := by
  have HR := hid_in h
  clear h
  go_enter Tryz.func22, Tryz.ntmps22
  go_wp2_with fail
  refine (l1OpenC a len cap z _ HR.out hl).mono ?_
  rintro e w1 ⟨sl, rfl, h1, hb1⟩
  have H1 := hid_in h1; have HB := hid_in hb1
  clear h1 hb1
  go_wp2_with fail
  refine (l12Frame_any _ sl _ _ H1.out (by omega) (by omega)).mono ?_
  rintro e w2 ⟨k, m, b, t, x, y, rfl, hk, hm, hx1, hx2, hy1, hy2, hbz, htz, ⟨q2, a2, b2, h2⟩, m2⟩
  have H2 := hid_in h2; have M2 := hid_in m2
  have hsz := frmT_size (key := k) (mac := m) (n := x) (m := y) hbz (show t.size ≤ 51 by omega)
  have ht2 := (tgT_size m (ahT k x y b t))
  have hsz1 : 1 ≤ (frmT k m x y b t).size := by unfold frmT; rw [ByteArray.size_append, ht2]; omega
  clear h2 m2 H1 ht2 hx1 hx2 hy1 hy2 htz hbz
  generalize frmT k m x y b t = s at *
  have KS' := hid_in (show k.size ≤ 16 ∧ m.size ≤ 5 ∧ s.size ≤ 140 by omega)
  go_wp2_with fail
  refine (pickM _ sl q2 5 _ H2.out (by omega) (by omega) (by omega) (by omega)).mono ?_
  rintro e w3 ⟨u3, rfl, a3, b3, h3, m3⟩
  have H3 := hid_in h3; have M3 := hid_in (M2.out.trans m3); clear h3 m3 H2 M2
  by_cases z0 : u3 = 0
  · subst z0
    obtain ⟨W4, c4, hcv, hS4⟩ := PB.of_text s w3 (bn s) (fun _ _ => rfl)
    obtain ⟨gb, cap, eqv, hcap, hgb, hgl, hcell, hsome, hfz⟩ := hS4.row
    obtain ⟨rfl, rfl⟩ : gb = w3.heap.size ∧ cap = c4 := by simp at eqv; exact ⟨eqv.1.symm, eqv.2.symm⟩
    have H4 := hid_in (H3.out.later hS4.bel)
    have M4 := hid_in (M3.out.trans (Mv.of_below hS4.bel))
    have HC := hid_in hcell; have HZ := hid_in hfz
    have hRl := H3.out.lt
    clear hS4 hcell hsome hfz eqv
    have hz3 : (s.size : Int) ≤ 140 := by have := KS'.out.2.2; omega
    have hz4 : (1 : Int) ≤ (s.size : Int) := by omega
    go_wp2_with fail
    refine (pickM _ sl _ (s.size : Int) _ H4.out (by omega) (by omega) (by omega) (by omega)).mono ?_
    rintro e w5 ⟨u5, rfl, a5, b5, h5, m5⟩
    have H5 := hid_in h5; have M5 := hid_in (M4.out.trans m5)
    obtain ⟨o, rfl⟩ := Int.eq_ofNat_of_zero_le a5
    have ho : o < s.size := by omega
    have hne : w3.heap.size ≠ w.heap.size := by have := M3.out.size; omega
    have hC5 := hid_in (fun i (hi : i < s.size) => (m5.cell _ i hgl hne).trans (HC.out i hi))
    have hZ5 := hid_in (fun i (hi : i < cap) => (m5.frozen _ i hgl hne).trans (HZ.out i hi))
    have hg5 : w3.heap.size < w5.heap.size := Nat.lt_of_lt_of_le hgl m5.size
    clear h5 m5 H4 M4
    have c0 := hC5.out o ho
    have f0 := hZ5.out o (by omega)
    have hx8 : bn s o < 256 := bn_lt s o
    generalize bn s o = bo at *
    have hRl5 := H5.out.lt
    have q6 : (o : Int) < (s.size : Int) := by omega
    go_wp2_with fail
    refine wp_region_E (needs := fun _ _ => []) (Rc 13 w.heap.size sl (q2 + 1 + 1) w5) w5.heap.size (postPk 255) (by kernel_rfl) (by dsimp only [List.dropLast]) (by simp only [List.getLast?_cons_cons, List.getLast?_singleton]; rfl) (by kernel_rfl) (Rc.start H5.out).drew Rc.alloc Rc.size ?_
    have hnn : Nonempty (LatC (Rc 13 w.heap.size sl (q2 + 1 + 1) w5)) := ⟨⟨0, w5, Rc.start H5.out⟩⟩
    have hcl : ∀ l : LatC (Rc 13 w.heap.size sl (q2 + 1 + 1) w5), l.x.cell? ⟨w3.heap.size, o, none⟩ = some (.int .u8 (bo : Int)) := fun l => by rw [l.h.1.cell _ _ hg5 hne]; exact c0
    refine wpE_one rfl rfl ?_
    go_big_quiet_step (fail)
    refine wpQuiet_nil ?_
    refine wpE_one rfl rfl ?_
    go_big_quiet_step (fail)
    refine wpQuiet_nil ?_
    refine wpE_one rfl rfl ?_
    go_big_quiet_step (fail)
    refine wpQuiet_nil ?_
    refine wpE_one rfl rfl ?_
    go_big_quiet_step (fail)
    refine wpQuiet_nil ?_
    refine wpE_one rfl rfl ?_
    go_big_quiet_step (fail)
    refine wpQuiet_nil ?_
    refine wpE_one rfl rfl ?_
    go_big_quiet_step (fail)
    refine wpQuiet_nil ?_
    refine wpE_one rfl rfl ?_
    go_big_quiet_step (fail)
    refine wpQuiet_nil ?_
    refine wpE_call (by rfl) (fun _ => by go_simp) (Rc.pick (N := 13) (m := 255) hRl5 (by omega) (by omega) (by omega) (by omega)) ⟨.int .i64 0, ⟨0, rfl, by omega, by omega⟩⟩ (by simp) ?_
    intro u6 hu6
    obtain ⟨x6, rfl, hx60, hx61⟩ := hu6
    obtain ⟨X6, rfl⟩ := Int.eq_ofNat_of_zero_le hx60
    obtain ⟨X, hX⟩ : ∃ X, 1 + X6 = X := ⟨_, rfl⟩
    have eX : (1 : Int) + (X6 : Int) = (X : Int) := by omega
    have hX256 : X < 256 := by omega
    have hxo := xor8 bo X hx8 hX256
    have hV := xor_lt hx8 hX256
    simp only [Act.put, List.setIfInBounds_toArray, List.set_cons_succ, List.set_cons_zero]
    refine wpE_one rfl rfl ?_
    go_big_quiet_step (fail)
    refine wpQuiet_nil ?_
    refine wpE_one rfl rfl ?_
    go_big_quiet_step (fail)
    refine wpQuiet_nil ?_
    refine wpE_one rfl rfl ?_
    go_big_quiet_step (fail)
    refine wpQuiet_nil ?_
    refine wpE_one rfl rfl ?_
    go_big_quiet_step (fail)
    refine wpQuiet_nil ?_
    refine wpE_nil ?_
    rintro m7 w7 ⟨M7, q7, hq1, hq2, h7⟩ hh
    clear hnn hcl
    have k0 : w7.cell? ⟨w3.heap.size, o, none⟩ = some (.int .u8 (bo : Int)) := by rw [M7.cell _ _ hg5 hne]; exact c0
    have k1 : w7.frozen? ⟨w3.heap.size, o, none⟩ = false := by rw [M7.frozen _ _ hg5 hne]; exact f0
    have hC7 := hid_in (fun i (hi : i < s.size) => (M7.cell _ i hg5 hne).trans (hC5.out i hi))
    have MM := hid_in (M5.out.trans M7)
    clear h7 hh M7 c0 f0
    generalize hVV : bo ^^^ X = V at *
    have hlen : ((List.range s.size).map fun j => if j = o then UInt8.ofNat V else UInt8.ofNat (bn s j)).length = s.size := by simp
    have hcells : ∀ (W : World), W.heap = (w7.setCell ⟨w3.heap.size, o, none⟩ (.int .u8 (V : Int))).heap → ∀ j (hj : j < ((List.range s.size).map fun j => if j = o then UInt8.ofNat V else UInt8.ofNat (bn s j)).length), W.cell? ((⟨w3.heap.size, 0, none⟩ : Addr).add j) = some (.int .u8 ((((List.range s.size).map fun j => if j = o then UInt8.ofNat V else UInt8.ofNat (bn s j))[j].toNat : Nat) : Int)) := by
      intro W hW j hj
      have hj' : j < s.size := by rwa [hlen] at hj
      rw [add_at, Nat.zero_add]
      have e1 : W.cell? ⟨w3.heap.size, j, none⟩ = (w7.setCell ⟨w3.heap.size, o, none⟩ (.int .u8 (V : Int))).cell? ⟨w3.heap.size, j, none⟩ := by unfold World.cell?; rw [hW]
      rw [e1]
      by_cases e : j = o
      · subst e
        rw [World.cell?_setCell_same' _ _ _ (by rw [k0]; rfl)]
        simp
        omega
      · rw [World.cell?_setCell_other _ _ _ _ (fun h => e (congrArg Addr.off h).symm), hC7.out j hj']
        have := bn_lt s j
        simp [e]
        omega
    have hcv : ∀ (W : World), W.heap = (w7.setCell ⟨w3.heap.size, o, none⟩ (.int .u8 (V : Int))).heap → (convert 25 9 (.slice (some ⟨w3.heap.size, 0, none⟩) s.size cap)).run Tryz.prog W = .ok (.string ⟨((List.range s.size).map fun j => if j = o then UInt8.ofNat V else UInt8.ofNat (bn s j)).toArray⟩) W := by
      intro W hW
      have := run_convert_bytes_back (P := Tryz.prog) W 25 9 5 ⟨w3.heap.size, 0, none⟩ cap _ Tryz.underlying25 Tryz.underlying5 Tryz.underlying9 (hcells W hW)
      rw [hlen] at this
      exact this
    have hS : (⟨((List.range s.size).map fun j => if j = o then UInt8.ofNat V else UInt8.ofNat (bn s j)).toArray⟩ : ByteArray).size = s.size := by show (Array.size _) = _; simp
    have HSZ := hid_in hS
    generalize (⟨((List.range s.size).map fun j => if j = o then UInt8.ofNat V else UInt8.ofNat (bn s j)).toArray⟩ : ByteArray) = S2 at *
    have hcv1 := hcv (w7.setCell ⟨w3.heap.size, o, none⟩ (.int .u8 (V : Int))).drew rfl
    have hcv2 := hcv (w7.setCell ⟨w3.heap.size, o, none⟩ (.int .u8 (V : Int))) rfl
    have MF := hid_in ((below_mv HB.out (Nat.le_refl _) MM.out).setCell (p := ⟨w3.heap.size, o, none⟩) (by show w.heap.size ≤ w3.heap.size; exact Nat.le_trans HB.out.size M3.out.size) (.int .u8 (V : Int)))
    clear hcells hcv hS hC5 hZ5 HC HZ
    go_wp2_with fail
    go_region
    go_wp2_with fail
    go_ret3
    exact ⟨k, m, S2, rfl, KS'.out.1, KS'.out.2.1, by rw [HSZ.out]; exact KS'.out.2.2, MF.out.drew⟩
  · by_cases z1 : u3 = 1
    · subst z1
      go_wp2_with fail
      go_ret3
      exact ⟨k, _, s, rfl, KS'.out.1, by rw [ByteArray.size_append, hm]; decide, KS'.out.2.2, below_mv HB.out (Nat.le_refl _) M3.out⟩
    · by_cases z2 : u3 = 2
      · subst z2
        go_wp2_with fail
        refine (l12Bytes_any _ sl _ 16 _ H3.out (by omega) (by omega) (by omega)).mono ?_
        rintro e w4 ⟨l4, rfl, hl4, _, m4⟩
        have M4 := hid_in (M3.out.trans m4); clear m4 M3
        go_wp2_with fail
        go_ret3
        exact ⟨⟨l4.toArray⟩, m, s, rfl, by rw [szL hl4]; decide, KS'.out.2.1, KS'.out.2.2, below_mv HB.out (Nat.le_refl _) M4.out⟩
      · go_wp2_with fail
        go_ret3
        exact ⟨k, m, s, rfl, KS'.out.1, KS'.out.2.1, KS'.out.2.2, below_mv HB.out (Nat.le_refl _) M3.out⟩
end Go.Proofs.YtefmmopkikpnhaaGreatDoor

