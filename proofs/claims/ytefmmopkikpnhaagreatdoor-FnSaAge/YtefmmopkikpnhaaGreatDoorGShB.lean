/- What is proved: the contracts of ShaG, ShaH, ShaI, BytS, ShaJ, ShaK, ShaL, one behind the other. The conditions stand at each theorem. -/
import Derived.Test.YtefmmopkikpnhaaGreatDoorGShA
import Derived.Lib.BufferWrite
import Derived.Test.YtefmmopkikpnhaaGreatDoorGAeA
import Derived.Test.YtefmmopkikpnhaaGreatDoorProg
import Derived.Test.YtefmmopkikpnhaaGreatDoorGBas
import Derived.Test.YtefmmopkikpnhaaGreatDoorGHex
import Derived.WalkKit
import Derived.WalkSpells
import Derived.WalkLawsBesides
import Derived.BigQuiet
import Derived.Handy
import Derived.PlainAid
import Derived.Laws.IdiomStrings
import Derived.Laws.BytesArg
import Derived.Deep.RegionHeld3
import Derived.Test.YtefmmopkikpnhaaGreatDoorGAeB
namespace Go.Proofs.YtefmmopkikpnhaaGreatDoor
open Go.RowKit Go.LatT Go.BlockM Go.PlainAid Go.OpnT Go.ApdG Go.BytM Go.AesM Go.RowQ
set_option linter.unusedVariables false
set_option linter.unusedSimpArgs false
/-- The cells of a sum. -/
def sL (s b : Nat → Nat) (h z : Nat) : List Value := uC 8 s ++ ((rC 64 b).toList ++ [.int .i64 (h : Int), .int .u64 (z : Int)])
theorem sL_st (s b : Nat → Nat) (h z i : Nat) (hi : i < 8) : (sL s b h z)[i]? = some (.int .u32 (s i : Int)) := by
  unfold sL
  rw [List.getElem?_append_left (by rw [uC_len]; exact hi), uC_get 8 s i hi]
theorem sL_bk (s b : Nat → Nat) (h z i : Nat) (hi : i < 64) : (sL s b h z)[8 + i]? = some (.int .u8 (b i : Int)) := by
  unfold sL
  rw [List.getElem?_append_right (by rw [uC_len]; omega), uC_len, show 8 + i - 8 = i by omega, List.getElem?_append_left (by rw [Array.length_toList, rC_size]; exact hi), Array.getElem?_toList, rC_get 64 b i hi]
theorem sL_h (s b : Nat → Nat) (h z : Nat) : (sL s b h z)[72]? = some (.int .i64 (h : Int)) := by
  unfold sL
  rw [List.getElem?_append_right (by rw [uC_len]; omega), uC_len, List.getElem?_append_right (by rw [Array.length_toList, rC_size]; omega), Array.length_toList, rC_size]
  rfl
theorem sL_z (s b : Nat → Nat) (h z : Nat) : (sL s b h z)[73]? = some (.int .u64 (z : Int)) := by
  unfold sL
  rw [List.getElem?_append_right (by rw [uC_len]; omega), uC_len, List.getElem?_append_right (by rw [Array.length_toList, rC_size]; omega), Array.length_toList, rC_size]
  rfl
theorem sL_len (s b : Nat → Nat) (h z : Nat) : (sL s b h z).length = 74 := by simp [sL, uC_len, rC_size]
/-- A sum lies in a block of its own. -/
def SX (W : World) (g : Nat) (s b : Nat → Nat) (h z : Nat) : Prop := W.heap[g]? = some (.cells (sL s b h z).toArray 189 (0, 0))
section
variable {W W' : World} {g : Nat} {s b s' b' : Nat → Nat} {h z : Nat}
theorem SX.lt (x : SX W g s b h z) : g < W.heap.size := (Array.getElem?_eq_some_iff.1 x).1
theorem SX.st (x : SX W g s b h z) (i : Nat) (hi : i < 8) : W.cell? ⟨g, i, none⟩ = some (.int .u32 (s i : Int)) := by
  rw [cell_of_row W g i _ _ _ x, List.getElem?_toArray, sL_st s b h z i hi]
theorem SX.bk (x : SX W g s b h z) (i : Nat) (hi : i < 64) : W.cell? ⟨g, 8 + i, none⟩ = some (.int .u8 (b i : Int)) := by
  rw [cell_of_row W g (8 + i) _ _ _ x, List.getElem?_toArray, sL_bk s b h z i hi]
theorem SX.ch (x : SX W g s b h z) : W.cell? ⟨g, 72, none⟩ = some (.int .i64 (h : Int)) := by
  rw [cell_of_row W g 72 _ _ _ x, List.getElem?_toArray, sL_h]
theorem SX.cz (x : SX W g s b h z) : W.cell? ⟨g, 73, none⟩ = some (.int .u64 (z : Int)) := by
  rw [cell_of_row W g 73 _ _ _ x, List.getElem?_toArray, sL_z]
theorem SX.frozen (x : SX W g s b h z) (i : Nat) : W.frozen? ⟨g, i, none⟩ = false := frozen_of_row W g i _ _ x
theorem SX.congr (x : SX W g s b h z) (e1 : ∀ i, i < 8 → s i = s' i) (e2 : ∀ i, i < 64 → b i = b' i) : SX W g s' b' h z := by
  unfold SX sL at *
  rw [← uC_congr e1, ← rC_congr e2]; exact x
theorem SX.block (x : SX W g s b h z) (e : W'.heap[g]? = W.heap[g]?) : SX W' g s b h z := by unfold SX; rw [e]; exact x
theorem SX.setL (x : SX W g s b h z) (k : Nat) (v : Value) (l : List Value) (e : (sL s b h z).set k v = l) : (W.setCell ⟨g, k, none⟩ v).heap[g]? = some (.cells l.toArray 189 (0, 0)) := by
  rw [heap_setCell_same W g k _ _ _ x, List.setIfInBounds_toArray, e]
theorem sL_set_st (s b : Nat → Nat) (h z k v : Nat) (hk : k < 8) : (sL s b h z).set k (.int .u32 (v : Int)) = sL (fun i => if i = k then v else s i) b h z := by
  unfold sL
  rw [List.set_append_left _ _ (by rw [uC_len]; exact hk), uC_set]
theorem sL_set_h (s b : Nat → Nat) (h z h' : Nat) : (sL s b h z).set 72 (.int .i64 (h' : Int)) = sL s b h' z := by
  unfold sL
  rw [List.set_append_right _ _ (by rw [uC_len]; omega), uC_len, List.set_append_right _ _ (by rw [Array.length_toList, rC_size]; omega), Array.length_toList, rC_size]
  rfl
theorem sL_set_z (s b : Nat → Nat) (h z z' : Nat) : (sL s b h z).set 73 (.int .u64 (z' : Int)) = sL s b h z' := by
  unfold sL
  rw [List.set_append_right _ _ (by rw [uC_len]; omega), uC_len, List.set_append_right _ _ (by rw [Array.length_toList, rC_size]; omega), Array.length_toList, rC_size]
  rfl
theorem SX.setS (x : SX W g s b h z) (k v : Nat) (hk : k < 8) : SX (W.setCell ⟨g, k, none⟩ (.int .u32 (v : Int))) g (fun i => if i = k then v else s i) b h z := x.setL k _ _ (sL_set_st s b h z k v hk)
theorem SX.setH (x : SX W g s b h z) (h' : Nat) : SX (W.setCell ⟨g, 72, none⟩ (.int .i64 (h' : Int))) g s b h' z := x.setL 72 _ _ (sL_set_h s b h z h')
theorem SX.setZ (x : SX W g s b h z) (z' : Nat) : SX (W.setCell ⟨g, 73, none⟩ (.int .u64 (z' : Int))) g s b h z' := x.setL 73 _ _ (sL_set_z s b h z z')
theorem SX.row8 (x : SX W g s b h z) : ∀ j, j < 8 → W.cell? ((⟨g, 0, none⟩ : Addr).add j) = (uA 8 s)[j]? := fun j hj => by rw [add_at, Nat.zero_add, x.st j hj, uA_get 8 s j hj]
end
theorem Mv.setC {g : Nat} {w W : World} (m : Mv g w W) (o : Nat) (v : Value) : Mv g w (W.setCell ⟨g, o, none⟩ v) :=
  ⟨m.os, m.tape, m.output, by simpa using m.size, fun k hk hne => (heap_setCell_other W ⟨g, o, none⟩ k v hne).trans (m.block k hk hne)⟩
theorem Mv.drew {g : Nat} {w W : World} (m : Mv g w W) : Mv g w W.drew := ⟨m.os, m.tape, m.output, m.size, m.block⟩
theorem Mv.later {g : Nat} {w W W' : World} (m : Mv g w W) (hb : Below W.heap.size W W') : Mv g w W' := m.trans (Mv.of_below hb)
/-- The constants of the steps lie in their table. -/
structure GK (W : World) : Prop where
  lt : 2 < W.heap.size
  st : ∀ i, i < 8 → W.cell? ⟨1, i, none⟩ = some (.int .u32 (ini i : Int))
  cell : ∀ i, i < 64 → W.cell? ⟨2, i, none⟩ = some (.int .u32 (kst i : Int))
theorem GK.mv {g : Nat} {w W : World} (h : GK w) (m : Mv g w W) (hg : 2 < g) : GK W :=
  ⟨Nat.lt_of_lt_of_le h.lt m.size, fun i hi => (m.cell 1 i (by have := h.lt; omega) (by omega)).trans (h.st i hi), fun i hi => (m.cell 2 i h.lt (by omega)).trans (h.cell i hi)⟩
theorem GK.below {B : Nat} {w W : World} (h : GK w) (m : Below B w W) (hB : 2 < B) : GK W :=
  ⟨Nat.lt_of_lt_of_le h.lt m.size, fun i hi => (m.cell (p := ⟨1, i, none⟩) (by show 1 < B; omega)).trans (h.st i hi), fun i hi => (m.cell (p := ⟨2, i, none⟩) hB).trans (h.cell i hi)⟩
end Go.Proofs.YtefmmopkikpnhaaGreatDoor

namespace Go.Proofs.YtefmmopkikpnhaaGreatDoor
open Go.RowKit Go.LatT Go.BlockM Go.PlainAid Go.OpnT Go.ApdG Go.BytM Go.AesM Go.RowQ
set_option linter.unusedVariables false
set_option linter.unusedSimpArgs false
/-- What lies where behind the block's copy. -/
structure WZ (g : Nat) (w W : World) (s b : Nat → Nat) (h z : Nat) : Prop where
  sx : SX W g s b h z
  mv : Mv g w W
  gk : GK W
theorem WZ.later {g : Nat} {w W W' : World} {s b : Nat → Nat} {h z : Nat} (x : WZ g w W s b h z) (hb : Below W.heap.size W W') : WZ g w W' s b h z :=
  ⟨x.sx.block (hb.block g x.sx.lt), x.mv.later hb, x.gk.below hb x.gk.lt⟩
theorem zeroU8 : (#[.int .u32 0, .int .u32 0, .int .u32 0, .int .u32 0, .int .u32 0, .int .u32 0, .int .u32 0, .int .u32 0] : Array Value) = uA 8 (fun _ => 0) := by kernel_rfl
theorem WZ.drew {g : Nat} {w W : World} {s b : Nat → Nat} {h z : Nat} (x : WZ g w W s b h z) : WZ g w W.drew s b h z := ⟨x.sx, x.mv.drew, ⟨x.gk.lt, x.gk.st, x.gk.cell⟩⟩
theorem WZ.setRow {g k : Nat} {w W : World} {s b : Nat → Nat} {h z : Nat} {cs : Array Value} (x : WZ g w W s b h z) (hk : w.heap.size ≤ k) (hg : g < w.heap.size) (h1 : 2 < w.heap.size) : WZ g w (W.setRow k cs) s b h z := by
  have e : ∀ j, j < w.heap.size → (W.setRow k cs).heap[j]? = W.heap[j]? := fun j hj => by
    simp only [World.setRow, Array.getElem?_modify]
    rw [if_neg (by omega)]
  have hb : Below w.heap.size W (W.setRow k cs) := Below_setRow (Below.refl _ _) hk
  exact ⟨x.sx.block (e g hg), ⟨x.mv.os, x.mv.tape, x.mv.output, by simpa [World.setRow] using x.mv.size, fun j hj hne => (e j hj).trans (x.mv.block j hj hne)⟩, x.gk.below hb h1⟩
theorem nxt (k v : Nat) (s : Nat → Nat) : shs k v s 0 = (s 7 + rs (s 4) [6, 11, 25] + ((s 4 &&& s 5) ^^^ ((4294967295 - s 4) &&& s 6)) + k + v + (rs (s 0) [2, 13, 22] + ((s 0 &&& s 1) ^^^ (s 0 &&& s 2) ^^^ (s 1 &&& s 2)))) % 4294967296 := by unfold shs; rfl
theorem nxt4 (k v : Nat) (s : Nat → Nat) : shs k v s 4 = (s 3 + (s 7 + rs (s 4) [6, 11, 25] + ((s 4 &&& s 5) ^^^ ((4294967295 - s 4) &&& s 6)) + k + v)) % 4294967296 := by unfold shs; rfl
theorem nxtS (k v : Nat) (s : Nat → Nat) (i : Nat) (h0 : i ≠ 0) (h4 : i ≠ 4) : shs k v s i = s (i - 1) := by unfold shs; rw [if_neg h0, if_neg h4]
theorem not32 (E : Nat) (h : E < 4294967296) : bits BinOp.xor IntKind.u32 IntKind.u32.max (E : Int) = ((4294967295 - E : Nat) : Int) := by
  have h1 := xor32 4294967295 E (by decide) h
  have h2 : (4294967295 : Nat) ^^^ E = 4294967295 - E := by
    have h3 : ((BitVec.allOnes 32) ^^^ (BitVec.ofNat 32 E)).toNat = (~~~ (BitVec.ofNat 32 E)).toNat := by rw [BitVec.allOnes_xor]
    rw [BitVec.toNat_xor, BitVec.toNat_not, BitVec.toNat_ofNat, Nat.mod_eq_of_lt h] at h3
    simpa using h3
  rw [h2] at h1
  exact h1
theorem fstE (E F G H Y X : Nat) (hE : E < 4294967296) (hF : F < 4294967296) (hG : G < 4294967296) : IntKind.u32.wrap (IntKind.u32.wrap (IntKind.u32.wrap (IntKind.u32.wrap ((H : Int) + (rs E [6, 11, 25] : Int)) + bits BinOp.xor IntKind.u32 (bits BinOp.and IntKind.u32 (E : Int) (F : Int)) (bits BinOp.and IntKind.u32 (bits BinOp.xor IntKind.u32 IntKind.u32.max (E : Int)) (G : Int))) + (Y : Int)) + (X : Int)) = (((H + rs E [6, 11, 25] + ((E &&& F) ^^^ ((4294967295 - E) &&& G)) + Y + X) % 4294967296 : Nat) : Int) := by
  rw [not32 E hE, and32 E F hE hF, and32 (4294967295 - E) G (by omega) hG, xor32 _ _ (Nat.and_lt_two_pow (n := 32) E hF) (Nat.and_lt_two_pow (n := 32) _ hG), IntKind.wrap_u32, IntKind.wrap_u32, IntKind.wrap_u32, IntKind.wrap_u32]
  omega
theorem sndE (A B C : Nat) (hA : A < 4294967296) (hB : B < 4294967296) (hC : C < 4294967296) : IntKind.u32.wrap ((rs A [2, 13, 22] : Int) + bits BinOp.xor IntKind.u32 (bits BinOp.xor IntKind.u32 (bits BinOp.and IntKind.u32 (A : Int) (B : Int)) (bits BinOp.and IntKind.u32 (A : Int) (C : Int))) (bits BinOp.and IntKind.u32 (B : Int) (C : Int))) = (((rs A [2, 13, 22] + ((A &&& B) ^^^ (A &&& C) ^^^ (B &&& C))) % 4294967296 : Nat) : Int) := by
  rw [and32 A B hA hB, and32 A C hA hC, and32 B C hB hC, xor32 _ _ (Nat.and_lt_two_pow (n := 32) _ hB) (Nat.and_lt_two_pow (n := 32) _ hC), xor32 _ _ (Nat.xor_lt_two_pow (n := 32) (Nat.and_lt_two_pow (n := 32) _ hB) (Nat.and_lt_two_pow (n := 32) _ hC)) (Nat.and_lt_two_pow (n := 32) _ hC), IntKind.wrap_u32]
  omega
set_option maxHeartbeats 4000000 in
set_option maxRecDepth 100000 in
theorem mix_any (g : Nat) (s b : Nat → Nat) (h z : Nat) (w : World) (hg1 : 2 < g) (hS : SX w g s b h z) (hK : GK w) (hb : ∀ i, i < 64 → b i < 256) (hs : ∀ i, i < 8 → s i < 4294967296) :
    Calls Tryz.prog 159 #[.pointer (some ⟨g, 0, none⟩)] w fun e w' => (∃ v, e = .returned v) ∧ SX w' g (shm b s) b h z ∧ Mv g w w' := by
  have S0 := hid_in (show WZ g w w s b h z from ⟨hS, Mv.refl g w, hK⟩)
  have HR := hid_in hS.row8
  have hgl := hS.lt
  have h1l := hK.lt
  have HY := hid_in hb; have HT := hid_in hs
  have U0 := hid_in (UB.new w 8 187 (fun _ => 0))
  have S1 := hid_in ((S0.out.later (below_box w (.cells (uA 8 (fun _ => 0)) 187))).setRow (k := w.heap.size) (cs := uA 8 s) (Nat.le_refl _) hgl h1l)
  rw [← zeroU8] at U0 S1
  have U1 : Hid (UB _ w.heap.size 8 187 s) := setRow_at (cs := uA 8 s) U0.out
  have HZ := hid_in (show w.heap.size + 1 ≤ ((w.alloc (.cells #[.int .u32 0, .int .u32 0, .int .u32 0, .int .u32 0, .int .u32 0, .int .u32 0, .int .u32 0, .int .u32 0] 187)).setRow w.heap.size (uA 8 s)).heap.size by simp [World.setRow])
  clear hS hK hb hs
  go_enter Tryz.func159, Tryz.ntmps159
  go_wp2_with (first | (refine wpList_load_at aggWd8 rfl _ rfl ⟨g, 0, none⟩ rfl (uA 8 s) (uA_size 8 s) HR.out ?_) | (refine wpList_store_row rfl 187 _ _ rfl w.heap.size _ rfl rfl 187 _ U0.out sizeWd8 (by rw [uA_size]; rfl) (uA_one _ _) ?_))
  generalize ((w.alloc (.cells _ 187)).setRow w.heap.size (uA 8 s)) = W0 at *
  have c0 := U1.out.cell 0 (by omega)
  have c1 := U1.out.cell 1 (by omega)
  have c2 := U1.out.cell 2 (by omega)
  have c3 := U1.out.cell 3 (by omega)
  have c4 := U1.out.cell 4 (by omega)
  have c5 := U1.out.cell 5 (by omega)
  have c6 := U1.out.cell 6 (by omega)
  have c7 := U1.out.cell 7 (by omega)
  have hw0 : w.heap.size < W0.heap.size := HZ.out
  go_quiet (fail)
  clear c0 c1 c2 c3 c4 c5 c6 c7
  go_wp2_with fail
  have M0 := hid_in (show WZ g w (W0.drewN nq) s b h z from ⟨S1.out.sx, ⟨S1.out.mv.os, S1.out.mv.tape, S1.out.mv.output, S1.out.mv.size, S1.out.mv.block⟩, ⟨S1.out.gk.lt, S1.out.gk.st, S1.out.gk.cell⟩⟩)
  refine (words_any g b (W0.drewN nq) M0.out.sx.lt (fun j hj => M0.out.sx.bk j hj) HY.out).mono ?_
  rintro e W1 ⟨rfl, hb1⟩
  have M1 := hid_in (M0.out.later hb1)
  clear hb1 M0 S1 HZ hw0 U0 U1 HR
  go_wp2_with fail
  go_loopw [3, 4, 5, 6, 7, 8, 9, 10, 39] (fun v0 v1 v2 v3 v4 v5 v6 v7 u wr => ∃ k : Nat, k ≤ 64 ∧ v0 = .int .u32 (sh b s k 0 : Int) ∧ v1 = .int .u32 (sh b s k 1 : Int) ∧ v2 = .int .u32 (sh b s k 2 : Int) ∧ v3 = .int .u32 (sh b s k 3 : Int) ∧ v4 = .int .u32 (sh b s k 4 : Int) ∧ v5 = .int .u32 (sh b s k 5 : Int) ∧ v6 = .int .u32 (sh b s k 6 : Int) ∧ v7 = .int .u32 (sh b s k 7 : Int) ∧ u = .int .i64 (k : Int) ∧ Hid (WZ g w wr s b h z)) (fun _ _ _ _ _ _ _ _ u _ => 64 - (intOf u).toNat)
  case atStart => exact ⟨0, Nat.zero_le _, rfl, rfl, rfl, rfl, rfl, rfl, rfl, rfl, rfl, M1⟩
  case round =>
    obtain ⟨k, hk, rfl, rfl, rfl, rfl, rfl, rfl, rfl, rfl, rfl, HW⟩ := hrel
    by_cases hlt : k < 64
    · have HL := hid_in hlt
      have q1 : (k : Int) < 64 := by omega
      have ix := idxW64 (wds b) k hlt
      have cK := HW.out.gk.cell k hlt
      have hK1 := HW.out.gk.lt
      have hst := sh_lt (b := b) HT.out k
      have h0 := hst 0 (by omega)
      have h1 := hst 1 (by omega)
      have h2 := hst 2 (by omega)
      have h3 := hst 3 (by omega)
      have h4 := hst 4 (by omega)
      have h5 := hst 5 (by omega)
      have h6 := hst 6 (by omega)
      have h7 := hst 7 (by omega)
      have E0 := hid_in (show sh b s (k + 1) 0 = _ from nxt (kst k) (wds b k) (sh b s k))
      have E1 := hid_in (show sh b s (k + 1) 1 = _ from nxtS (kst k) (wds b k) (sh b s k) 1 (by omega) (by omega))
      have E2 := hid_in (show sh b s (k + 1) 2 = _ from nxtS (kst k) (wds b k) (sh b s k) 2 (by omega) (by omega))
      have E3 := hid_in (show sh b s (k + 1) 3 = _ from nxtS (kst k) (wds b k) (sh b s k) 3 (by omega) (by omega))
      have E4 := hid_in (show sh b s (k + 1) 4 = _ from nxt4 (kst k) (wds b k) (sh b s k))
      have E5 := hid_in (show sh b s (k + 1) 5 = _ from nxtS (kst k) (wds b k) (sh b s k) 5 (by omega) (by omega))
      have E6 := hid_in (show sh b s (k + 1) 6 = _ from nxtS (kst k) (wds b k) (sh b s k) 6 (by omega) (by omega))
      have E7 := hid_in (show sh b s (k + 1) 7 = _ from nxtS (kst k) (wds b k) (sh b s k) 7 (by omega) (by omega))
      have hkl := kst_lt k
      have hwl := wds_lt HY.out k
      clear hst
      generalize sh b s k 0 = A at *
      generalize sh b s k 1 = B at *
      generalize sh b s k 2 = C at *
      generalize sh b s k 3 = D at *
      generalize sh b s k 4 = E at *
      generalize sh b s k 5 = F at *
      generalize sh b s k 6 = G at *
      generalize sh b s k 7 = H at *
      generalize hX : wds b k = X at *
      generalize hY : kst k = Y at *
      clear hX hY
      go_wp2_with fail
      go_region_held3 (fun w' => w'.cell? ⟨2, k, none⟩ = some (.int .u32 (Y : Int))) (first | (go_keep; done) | (go_simp; done)) (first | (go_at_call 187; refine (turned3 E _ _ 6 11 25 _ h4 (by decide) (by decide) (by decide) ?_ ?_ ?_ ?_).mono ?_; (focus (first | omega | (simp; done) | (simp; omega))); (focus (go_simp)); (focus (go_simp)); (focus (go_simp)); rintro e w1 ⟨rfl, hb1⟩; have M2 := hid_in (((HW.out.later (below_box _ _)).drew).later hb1); have u1 := hb1.size; (try simp at u1); have y1 := (hb1.cell (p := ⟨2, k, none⟩) (by first | (simp; omega) | omega)).trans (by first | (go_keep; done) | go_simp : _ = some (Value.int .u32 (Y : Int)))))
      rw [fstE E F G H Y X h4 h5 h6]
      obtain ⟨T, hT⟩ : ∃ T, (H + rs E [6, 11, 25] + ((E &&& F) ^^^ ((4294967295 - E) &&& G)) + Y + X) = T := ⟨_, rfl⟩
      rw [hT] at E0 E4
      rw [hT]
      clear hT y1 u1 hb1 cK
      have hz1 := M2.out.sx.lt
      go_wp2_with fail
      have M3 := hid_in (M2.out.later (below_box w1 (.cells #[.int .i64 2, .int .i64 13, .int .i64 22] 3)))
      refine (turned3 A _ _ 2 13 22 _ h0 (by decide) (by decide) (by decide) ?_ ?_ ?_ ?_).mono ?_
      · simp
      · go_simp
      · go_simp
      · go_simp
      rintro e w2 ⟨rfl, hb2⟩
      have M4 := hid_in (M3.out.later hb2)
      clear hb2 M3 M2
      go_wp2_with fail
      have SE := sndE A B C h0 h1 h2
      rw [IntKind.wrap_u32] at SE
      refine ⟨⟨k + 1, HL.out, ?_, by rw [E1.out], by rw [E2.out], by rw [E3.out], ?_, by rw [E5.out], by rw [E6.out], by rw [E7.out], by simp, M4⟩, by have := HL.out; simp [intOf]; omega⟩
      · rw [SE, E0.out]
        congr 1
        omega
      · rw [E4.out]
        congr 1
        omega
    · have q1 : ¬ (k : Int) < 64 := by omega
      obtain rfl : k = 64 := by omega
      have M5 := hid_in (show WZ g w wr s b h z from HW.out)
      clear HW M1
      go_wp2_with fail
      go_loopw [100] (fun u wr => ∃ i : Nat, i ≤ 8 ∧ u = .int .i64 (i : Int) ∧ Hid (WZ g w wr (fun j => if j < i then shm b s j else s j) b h z)) (fun u _ => 8 - (intOf u).toNat)
      case atStart =>
        refine ⟨0, Nat.zero_le _, rfl, ?_⟩
        exact ⟨M5.out.sx.congr (fun i _ => by simp) (fun _ _ => rfl), M5.out.mv, M5.out.gk⟩
      case round =>
        clear M5
        obtain ⟨i, hi, rfl, HV⟩ := hrel
        by_cases hlt2 : i < 8
        · have HL := hid_in hlt2
          have q2 : (i : Int) < 8 := by omega
          have ix := idxW8 (sh b s 64) i hlt2
          have ci := HV.out.sx.st i hlt2
          have fi := HV.out.sx.frozen i
          rw [if_neg (Nat.lt_irrefl i)] at ci
          have hgw := HV.out.sx.lt
          have HE := hid_in (show (((s i : Int) + (sh b s 64 i : Int)) % 4294967296) = ((shm b s i : Nat) : Int) by unfold shm; omega)
          have eqA : (#[Value.int IntKind.u32 (sh b s 64 0 : Int), Value.int IntKind.u32 (sh b s 64 1 : Int), Value.int IntKind.u32 (sh b s 64 2 : Int), Value.int IntKind.u32 (sh b s 64 3 : Int), Value.int IntKind.u32 (sh b s 64 4 : Int), Value.int IntKind.u32 (sh b s 64 5 : Int), Value.int IntKind.u32 (sh b s 64 6 : Int), Value.int IntKind.u32 (sh b s 64 7 : Int)] : Array Value) = uA 8 (sh b s 64) := rfl
          rw [← eqA] at ix
          clear eqA
          go_wp2_with fail
          go_region
          go_wp2_with fail
          refine ⟨⟨i + 1, HL.out, by simp, ?_⟩, by have := HL.out; simp [intOf]; omega⟩
          show WZ _ _ _ _ _ _ _
          rw [HE.out]
          have X := HV.out.sx.setS i (shm b s i) HL.out
          refine ⟨?_, ?_, ?_⟩
          · refine SX.congr (s := fun j => if j = i then shm b s i else if j < i then shm b s j else s j) (b := b) X (fun j _ => ?_) (fun _ _ => rfl)
            show (if j = i then _ else _) = if j < i + 1 then _ else _
            by_cases e : j = i
            · rw [if_pos e, e, if_pos (by omega)]
            · by_cases e2 : j < i
              · rw [if_neg e, if_pos e2, if_pos (by omega)]
              · rw [if_neg e, if_neg e2, if_neg (by omega)]
          · exact (HV.out.mv.setC i _).drew
          · exact HV.out.gk.mv (g := g) ((Mv.refl g wr).setC i _).drew hg1
        · have q2 : ¬ (i : Int) < 8 := by omega
          obtain rfl : i = 8 := by omega
          have X := hid_in (HV.out.sx.congr (s' := shm b s) (b' := b) (fun j hj => by show (if j < 8 then _ else _) = _; rw [if_pos hj]) (fun _ _ => rfl))
          have Y := hid_in HV.out.mv
          clear HV
          go_wp2_with fail
          go_end0
          exact ⟨⟨_, rfl⟩, X.out, Y.out⟩
end Go.Proofs.YtefmmopkikpnhaaGreatDoor

namespace Go.Proofs.YtefmmopkikpnhaaGreatDoor
open Go.RowKit Go.LatT Go.BlockM Go.PlainAid Go.OpnT Go.ApdG Go.BytM Go.AesM Go.RowQ
set_option linter.unusedVariables false
set_option linter.unusedSimpArgs false
/-- copy from a string into a row, as much as there is room. -/
theorem run_copy_cut {P : Program} (w : World) (dT sT ty elem : TypeId) (g o dLen dCap : Nat) (s : ByteArray) (cur : Array Value) (t : TypeId) (n : Nat)
    (hu : P.underlying dT = some (.slice elem)) (hs : (P.info? elem).map (·.size) = some 1) (hg : w.heap[g]? = some (.cells cur t (0, 0))) (hn : Nat.min s.size dLen = n) (hfit : o + n ≤ cur.size) :
    (Builtin.copy_ #[dT, sT] ty #[.slice (some ⟨g, o, none⟩) dLen dCap, .string s]).run P w =
      .ok (goInt n) (w.setRow g (cur.toList.take o ++ Lib.byteCells (s.data.toList.take n) ++ cur.toList.drop (o + n)).toArray) := by
  have hsz : s.data.toList.length = s.size := s.data.length_toList
  have hns : n ≤ s.size := by rw [← hn]; exact Nat.min_le_left _ _
  have hlen : (Lib.byteCells (s.data.toList.take n)).length = n := by rw [Lib.byteCells_length, List.length_take, hsz]; omega
  have hst := run_storeCells_at P g o t (Lib.byteCells (s.data.toList.take n)) 0 cur w hg (by rw [hlen]; simpa using hfit) (Lib.byteCells_one _)
  have htk : List.take n (List.map (fun b : UInt8 => Value.int IntKind.u8 (b.toNat : Int)) s.data.toList) = Lib.byteCells (s.data.toList.take n) := by
    rw [← List.map_take]
    rfl
  rw [hlen] at hst
  simp only [Nat.add_zero] at hst
  cases hq : P.info? elem with
  | none => simp [hq] at hs
  | some i =>
    simp [Builtin.copy_, run_underlying hu, Builtin.lenOf, Builtin.firstCells, sizeOf, typeInfo, hq, hn]
    rw [htk, hst]
    simp [Result.andThen]
theorem byteCells_get (s : ByteArray) (n i : Nat) (hi : i < n) (hn : n ≤ s.size) : (Lib.byteCells (s.data.toList.take n))[i]? = some (.int .u8 (bn s i : Int)) := by
  have hs : i < s.size := by omega
  have hl : i < s.data.toList.length := by rw [s.data.length_toList]; exact hs
  unfold Lib.byteCells
  rw [List.getElem?_map, List.getElem?_take_of_lt hi, List.getElem?_eq_getElem hl, bn_int]
  unfold bt
  rw [dif_pos hs]
  simp
  rfl
theorem sL_get_end (s b : Nat → Nat) (h z i : Nat) (hi : 72 ≤ i) : (sL s b h z)[i]? = ([.int .i64 (h : Int), .int .u64 (z : Int)] : List Value)[i - 72]? := by
  unfold sL
  rw [List.getElem?_append_right (by rw [uC_len]; omega), uC_len, List.getElem?_append_right (by rw [Array.length_toList, rC_size]; omega), Array.length_toList, rC_size]
  congr 1
  all_goals omega
theorem sL_copy (s b : Nat → Nat) (h z k : Nat) (r : ByteArray) (hk : h + k ≤ 64) (hr : k ≤ r.size) :
    ((sL s b h z).toArray.toList.take (8 + h) ++ Lib.byteCells (r.data.toList.take k) ++ (sL s b h z).toArray.toList.drop (8 + h + k)).toArray = (sL s (fun i => if h ≤ i ∧ i < h + k then bn r (i - h) else b i) h z).toArray := by
  congr 1
  have hlen : (Lib.byteCells (r.data.toList.take k)).length = k := by rw [Lib.byteCells_length, List.length_take, r.data.length_toList]; have : r.data.size = r.size := rfl; omega
  have hl := sL_len s b h z
  apply List.ext_getElem?
  intro i
  show (_ : List Value)[i]? = _
  simp only [List.toList_toArray]
  have ht : ((sL s b h z).take (8 + h)).length = 8 + h := by rw [List.length_take, hl]; omega
  by_cases h1 : i < 8 + h
  · rw [List.append_assoc, List.getElem?_append_left (by rw [ht]; exact h1), List.getElem?_take_of_lt h1]
    by_cases h8 : i < 8
    · rw [sL_st _ _ _ _ _ h8, sL_st _ _ _ _ _ h8]
    · obtain ⟨j, rfl⟩ : ∃ j, i = 8 + j := ⟨i - 8, by omega⟩
      rw [sL_bk _ _ _ _ j (by omega), sL_bk _ _ _ _ j (by omega), if_neg (by omega)]
  · by_cases h2 : i < 8 + h + k
    · rw [List.getElem?_append_left (by rw [List.length_append, ht, hlen]; omega), List.getElem?_append_right (by rw [ht]; omega), ht, byteCells_get r k _ (by omega) hr]
      obtain ⟨j, rfl⟩ : ∃ j, i = 8 + j := ⟨i - 8, by omega⟩
      rw [sL_bk _ _ _ _ j (by omega), if_pos (by omega), show 8 + j - (8 + h) = j - h by omega]
    · rw [List.getElem?_append_right (by rw [List.length_append, ht, hlen]; omega), List.length_append, ht, hlen, List.getElem?_drop, show 8 + h + k + (i - (8 + h + k)) = i by omega]
      by_cases h3 : i < 72
      · obtain ⟨j, rfl⟩ : ∃ j, i = 8 + j := ⟨i - 8, by omega⟩
        rw [sL_bk _ _ _ _ j (by omega), sL_bk _ _ _ _ j (by omega), if_neg (by omega)]
      · rw [sL_get_end _ _ _ _ _ (by omega), sL_get_end _ _ _ _ _ (by omega)]
theorem bn_exrest (r : ByteArray) (k i : Nat) (h : k + i < r.size) : bn (r.extract k r.size) i = bn r (k + i) := by
  unfold bn bt
  have h2 : i < (r.extract k r.size).size := by simp; omega
  rw [dif_pos h2, dif_pos h]
  congr 3
  exact ByteArray.getElem_extract _
theorem mv_setRow {g : Nat} {w W : World} {cs : Array Value} (m : Mv g w W) : Mv g w (W.setRow g cs) :=
  ⟨m.os, m.tape, m.output, by simpa [World.setRow] using m.size, fun k hk hne => by
    rw [← m.block k hk hne]
    simp only [World.setRow, Array.getElem?_modify]
    rw [if_neg (by omega)]⟩
/-- So many bytes of a stream have been written. -/
structure SM (W : World) (g : Nat) (f : Nat → Nat) (n z : Nat) (b : Nat → Nat) : Prop where
  sx : SX W g (stt f (n / 64)) b (n % 64) z
  lt : ∀ i, i < 64 → b i < 256
  eq : ∀ i, i < n % 64 → b i = f (64 * (n / 64) + i)
/-- What lies where while bytes are written: n of the stream are in, z are told. -/
structure SW (g : Nat) (w W : World) (f : Nat → Nat) (n z : Nat) : Prop where
  sm : ∃ b, SM W g f n z b
  mv : Mv g w W
  gk : GK W
def ssz : Value → Nat
  | .string s => s.size
  | _ => 0
theorem bits8 : (Tryz.prog.info? 5).map (·.size) = some 1 := by kernel_rfl
set_option maxHeartbeats 4000000 in
set_option maxRecDepth 100000 in
theorem write_any (g : Nat) (t : ByteArray) (f : Nat → Nat) (n : Nat) (w : World) (hg1 : 2 < g) (hS : SW g w w f n n) (hn : n ≤ 4000000) (ht : t.size ≤ 4000000) (hf : ∀ i, i < t.size → bn t i = f (n + i)) :
    Calls Tryz.prog 105 #[.pointer (some ⟨g, 0, none⟩), .string t] w fun e w' => (∃ v, e = .returned v) ∧ SW g w w' f (n + t.size) (n + t.size) := by
  obtain ⟨b0, hm0⟩ := hS.sm
  have cz := hm0.sx.cz
  have fz := hm0.sx.frozen 73
  have hgl := hm0.sx.lt
  have e1 : IntKind.u64.wrap (t.size : Int) = (t.size : Int) := by rw [IntKind.wrap_u64]; omega
  have e2 : IntKind.u64.wrap ((n : Int) + (t.size : Int)) = (((n + t.size : Nat)) : Int) := by rw [IntKind.wrap_u64]; omega
  have e2' : ((n : Int) + (t.size : Int)) % 18446744073709551616 = (((n + t.size : Nat)) : Int) := by omega
  have S1 : Hid (SW g w (w.setCell ⟨g, 73, none⟩ (.int .u64 ((n + t.size : Nat) : Int))) f n (n + t.size)) :=
    ⟨⟨b0, hm0.sx.setZ (n + t.size), hm0.lt, hm0.eq⟩, hS.mv.setC 73 _, hS.gk.mv ((Mv.refl g w).setC 73 _) hg1⟩
  have HF := hid_in hf
  clear hS hm0 hf
  go_enter Tryz.func105, Tryz.ntmps105
  go_wp2_with fail
  go_loopw [1] (fun v wr => ∃ (r : ByteArray) (m : Nat), v = .string r ∧ m + r.size = t.size ∧ Hid (∀ i, i < r.size → bn r i = f (n + m + i)) ∧ Hid (SW g w wr f (n + m) (n + t.size))) (fun v _ => ssz v)
  case atStart => exact ⟨t, 0, rfl, by omega, HF, by rw [e2'] at *; exact S1⟩
  case round =>
    obtain ⟨r, m, rfl, hm, HB, HW⟩ := hrel
    clear S1 HF
    by_cases hlt : 0 < r.size
    · have q1 : (0 : Int) < (r.size : Int) := by omega
      obtain ⟨b, hS⟩ := HW.out.sm
      obtain ⟨h, hh⟩ : ∃ h, (n + m) % 64 = h := ⟨_, rfl⟩
      obtain ⟨q, hq⟩ : ∃ q, (n + m) / 64 = q := ⟨_, rfl⟩
      have hx := hS.sx
      have hlb := hid_in hS.lt; have heq := hid_in hS.eq
      rw [hh, hq] at hx heq
      clear hS
      have hh64 : h < 64 := by omega
      obtain ⟨l, hl⟩ : ∃ l, 64 - h = l := ⟨_, rfl⟩
      obtain ⟨k, hk⟩ : ∃ k, Nat.min r.size l = k := ⟨_, rfl⟩
      have hk1 : k ≤ r.size := by rw [← hk]; exact Nat.min_le_left _ _
      have hk2 : k ≤ l := by rw [← hk]; exact Nat.min_le_right _ _
      have hk3 : k = r.size ∨ k = l := by rw [← hk]; have : Nat.min r.size l = min r.size l := rfl; omega
      have hcp := fun ty => run_copy_cut (P := Tryz.prog) wr.drew 25 9 ty 5 g (8 + h) l l r _ 189 k Tryz.underlying25 bits8 hx hk (by rw [List.size_toArray, sL_len]; omega)
      rw [sL_copy _ _ _ _ k r (by omega) hk1] at hcp
      obtain ⟨b1, hb1⟩ : ∃ b1, (fun i => if h ≤ i ∧ i < h + k then bn r (i - h) else b i) = b1 := ⟨_, rfl⟩
      have hb1i := hid_in (show ∀ i, b1 i = if h ≤ i ∧ i < h + k then bn r (i - h) else b i from fun i => by rw [← hb1])
      rw [hb1] at hcp
      clear hb1
      have hc3 := hcp 3
      clear hcp
      have c72 := hx.ch
      have f72 := hx.frozen 72
      have hgw := hx.lt
      have q2 : (h : Int) ≤ 64 := by omega
      go_wp2_with fail
      go_region
      have X1 := hid_in (show SX (wr.drew.setRow g (sL (stt f q) b1 h (n + t.size)).toArray) g (stt f q) b1 h (n + t.size) from setRow_at (W := wr.drew) hx)
      have V1 := hid_in (mv_setRow (cs := (sL (stt f q) b1 h (n + t.size)).toArray) (Mv.refl g wr).drew)
      generalize (wr.drew.setRow g (sL (stt f q) b1 h (n + t.size)).toArray) = W1 at *
      have HB' : Hid (∀ i, i < h + k → b1 i = f (64 * q + i)) := by
        intro i hi
        by_cases e : h ≤ i
        · rw [hb1i.out, if_pos ⟨e, hi⟩, HB.out _ (by omega), show n + m + (i - h) = 64 * q + i by omega]
        · rw [hb1i.out, if_neg (by omega)]; exact heq.out i (by omega)
      have HL' : Hid (∀ i, i < 64 → b1 i < 256) := by
        intro i hi
        by_cases e : h ≤ i ∧ i < h + k
        · rw [hb1i.out, if_pos e]; exact bn_lt _ _
        · rw [hb1i.out, if_neg e]; exact hlb.out i hi
      have HR : Hid (∀ i, i < r.size - k → bn (r.extract k r.size) i = f (n + (m + k) + i)) := fun i hi => by
        rw [bn_exrest r k i (by omega), HB.out _ (by omega)]
        congr 1
        omega
      have hrs : (r.extract k r.size).size = r.size - k := by simp
      have HRS := hid_in hrs
      have HMK := hid_in (show m + k + (r.size - k) = t.size by omega)
      clear c72 f72 hgw hc3 hx hlb heq hrs
      have c72 := X1.out.ch
      have f72 := X1.out.frozen 72
      have hgw := X1.out.lt
      have q3 : (k : Int) ≤ (r.size : Int) := by omega
      have HK := hid_in (show 0 < k by omega)
      have X2 := hid_in (X1.out.setH (h + k))
      have V2 := hid_in (V1.out.setC 72 (.int .i64 ((h + k : Nat) : Int)))
      by_cases h64 : h + k = 64
      · have q5 : (h : Int) + (k : Int) = 64 := by omega
        rw [h64] at X2 V2
        have K2 := HW.out.gk.mv V2.out hg1
        have F1 := hid_in (show ∀ i, i < 8 → shm b1 (stt f q) i = stt f (q + 1) i from shm_congr (fun i hi => by rw [← h64] at hi; exact HB'.out i hi) (fun _ _ => rfl))
        have HN := hid_in (show (n + (m + k)) / 64 = q + 1 ∧ (n + (m + k)) % 64 = 0 by omega)
        go_wp2_with fail
        refine (mix_any g (stt f q) b1 64 (n + t.size) _ hg1 X2.out K2 HL'.out (stt_lt f q)).mono ?_
        rintro e W3 ⟨⟨v, rfl⟩, X3, V3⟩
        have c72' := X3.ch
        have f72' := X3.frozen 72
        have hgw' := X3.lt
        have V4 := hid_in ((V2.out.trans V3).setC 72 (.int .i64 ((0 : Nat) : Int)))
        have X4 := hid_in ((X3.congr F1.out (fun _ _ => rfl)).setH 0)
        clear X3 V3 K2
        go_wp2_with fail
        refine ⟨⟨r.extract k r.size, m + k, rfl, by rw [HRS.out]; exact HMK.out, by rw [HRS.out]; exact HR, ?_⟩, by show ssz _ < ssz _; simp only [ssz]; rw [HRS.out]; have := HK.out; omega⟩
        refine ⟨⟨b1, ?_, HL'.out, ?_⟩, HW.out.mv.trans V4.out, HW.out.gk.mv V4.out hg1⟩
        · rw [HN.out.1, HN.out.2]; exact X4.out
        · rw [HN.out.2]; intro i hi; omega
      · have q5 : ¬ (h : Int) + (k : Int) = 64 := by omega
        have HN := hid_in (show (n + (m + k)) / 64 = q ∧ (n + (m + k)) % 64 = h + k by omega)
        go_wp2_with fail
        refine ⟨⟨r.extract k r.size, m + k, rfl, by rw [HRS.out]; exact HMK.out, by rw [HRS.out]; exact HR, ?_⟩, by show ssz _ < ssz _; simp only [ssz]; rw [HRS.out]; have := HK.out; omega⟩
        refine ⟨⟨b1, ?_, HL'.out, ?_⟩, HW.out.mv.trans V2.out, HW.out.gk.mv V2.out hg1⟩
        · rw [HN.out.1, HN.out.2]; exact X2.out
        · rw [HN.out.1, HN.out.2]; exact HB'.out
    · have q1 : ¬ (0 : Int) < (r.size : Int) := by omega
      obtain rfl : m = t.size := by omega
      go_wp2_with fail
      go_end0
      exact ⟨⟨_, rfl⟩, HW.out⟩
end Go.Proofs.YtefmmopkikpnhaaGreatDoor

namespace Go.Proofs.YtefmmopkikpnhaaGreatDoor
open Go.RowKit Go.LatT Go.BlockM Go.PlainAid Go.OpnT Go.ApdG Go.BytM
set_option linter.unusedVariables false
set_option linter.unusedSimpArgs false
theorem pow256 (m : Nat) : (2 : Int) ^ (8 * m) = ((256 ^ m : Nat) : Int) := by
  have : (2 : Int) ^ (8 * m) = ((2 ^ (8 * m) : Nat) : Int) := by simp
  rw [this, Nat.pow_mul]
theorem u8s_set (l : List UInt8) (i : Nat) (b : UInt8) : (u8s l).set i (.int .u8 (b.toNat : Int)) = u8s (l.set i b) := by simp [u8s, List.map_set]
theorem put_be (m k n : Nat) : (List.replicate (m + 1) 0 ++ be k n).set m (UInt8.ofNat (n / 256 ^ k)) = List.replicate m 0 ++ be (k + 1) n := by
  rw [be_cons, List.replicate_succ', List.append_assoc, List.set_append_right _ _ (by simp)]
  simp
theorem byte_of (n : Nat) : ((UInt8.ofNat n).toNat : Int) = (n : Int) % 256 := by simp
set_option maxHeartbeats 2000000 in
set_option maxRecDepth 100000 in
theorem l8Bytes_any (n many : Nat) (w : World) (hn : n < 4611686018427387904) (hm : many ≤ 8) :
    Calls Tryz.prog 107 #[.int .i64 (n : Int), .int .i64 (many : Int)] w fun e w' => e = .returned (.string ⟨(be many n).toArray⟩) ∧ Below w.heap.size w w' := by
  go_enter Tryz.func107, Tryz.ntmps107
  go_wp2_with fail
  go_loopw [5, 6] (fun o v wr => ∃ k : Nat, k ≤ many ∧ v = .int .i64 ((many : Int) - 1 - (k : Int)) ∧ Hid (Below w.heap.size w wr ∧ wr.ownsRow w.heap.size 5 1 o k (u8s (be k (n / 256 ^ (many - k)))))) (fun _ v _ => (intOf v + 1).toNat)
  case atStart =>
    refine ⟨0, Nat.zero_le _, by simp, ?_⟩
    show _ ∧ _
    exact ⟨below_box _ _, World.ownsRow_lit w #[] 0 (Nat.le_refl _) (Nat.zero_le _) rfl⟩
  case round =>
    obtain ⟨k, hk, rfl, HW⟩ := hrel
    obtain ⟨hB, hO⟩ := HW.out
    have HB := hid_in hB; have HO := hid_in hO
    have hz := hB.size
    clear hB hO HW
    by_cases hlt : k < many
    · have h1c : ∀ (a : Int), ∀ u ∈ [Value.int .u8 a], u.oneCell' = true := by intro a u hu; simp at hu; subst hu; rfl
      have hp : ((n : Int) / 2 ^ (8 * (many - 1 - k)) % 256) = ((UInt8.ofNat (n / 256 ^ (many - (k + 1)))).toNat : Int) := by
        rw [byte_of, show many - (k + 1) = many - 1 - k by omega, pow256]; simp
      have HP := hid_in hp
      have HL := hid_in hlt
      have HK := hid_in hk
      clear hp
      go_wp2_with (at_builtin; refine wpG elemB rfl (.tmp 14) (.tmp 20) rfl w.heap.size _ k _ rfl (HO.out.alloc _) ⟨wr.heap.size, 0, none⟩ 1 1 [.int .u8 _] rfl rfl (cells_new _ _ _) (h1c _) (by omega) (by simp; omega) ?_; intro v3 w3 o3 g3 n3; have O3 := hid_in o3; have G3 := hid_in g3; clear o3 g3 n3)
      have hlt := HL.out
      go_roundw
      case rel =>
        refine ⟨k + 1, by omega, by simp; omega, ?_⟩
        show _ ∧ _
        refine ⟨(HB.out.alloc HB.out.size _).grown G3.out (by simp; omega) (fun g hg => (owns_own HO.out g hg).1), ?_⟩
        have h := O3.out
        rw [HP.out] at h
        have e1 : n / 256 ^ (many - (k + 1)) / 256 = n / 256 ^ (many - k) := by
          rw [Nat.div_div_eq_div_mul, ← Nat.pow_succ, show (many - (k + 1)).succ = many - k by omega]
        rw [be, u8s_append, e1]
        exact h
      case measure => simp [intOf]; omega
    · have hk' : k = many := by omega
      have HK := hid_in hk'
      have hcv := owns_text HO.out (be_len _ _).symm
      go_wp2_with fail
      go_ret
      refine ⟨?_, HB.out⟩
      rw [HK.out]; simp
set_option maxHeartbeats 2000000 in
set_option maxRecDepth 100000 in
theorem bytesOf_any (n size : Nat) (w : World) (hn : n < 18446744073709551616) (hm : size ≤ 8) :
    Calls Tryz.prog 53 #[.int .u64 (n : Int), .int .i64 (size : Int)] w fun e w' => e = .returned (.string ⟨(be size n).toArray⟩) ∧ Below w.heap.size w w' := by
  have hmk := fun W => make1 elemB size (by omega) W rfl
  go_enter Tryz.func53, Tryz.ntmps53
  go_wp2_with fail
  go_loopw [0, 11] (fun x v wr => ∃ k : Nat, k ≤ size ∧ v = .int .i64 (k : Int) ∧ x = .int .u64 ((n / 256 ^ k : Nat) : Int) ∧ Hid (Below w.heap.size w wr ∧ wr.ownsRow w.heap.size 5 1 (.slice (some ⟨w.heap.size, 0, none⟩) size size) size (u8s (List.replicate (size - k) 0 ++ be k n)))) (fun _ v _ => size - (intOf v).toNat)
  case atStart =>
    refine ⟨0, Nat.zero_le _, rfl, by simp, ?_⟩
    show _ ∧ _
    refine ⟨below_box _ _, ?_⟩
    have h := World.ownsRow_lit (base := w.heap.size) (e := 5) (size := 1) w (Array.replicate size (Value.int .u8 0)) size (Nat.le_refl _) (by unfold maxLen; omega) (by simp)
    have e1 : (Array.replicate size (Value.int .u8 0)).toList = u8s (List.replicate (size - 0) 0 ++ be 0 n) := by simp [u8s, be]
    rw [e1] at h
    exact h
  case round =>
    obtain ⟨k, hk, rfl, rfl, HW⟩ := hrel
    obtain ⟨hB, hO⟩ := HW.out
    have HB := hid_in hB; have HO := hid_in hO
    have hz := hB.size
    have hnk : n / 256 ^ k < 18446744073709551616 := Nat.lt_of_le_of_lt (Nat.div_le_self _ _) hn
    have hfr := World.ownsRow.frozenAt hO (size - 1 - k)
    by_cases hlt : k < size
    · have hce := World.ownsRow.cellAt hO (size - 1 - k) (by omega)
      rw [show (u8s (List.replicate (size - k) 0 ++ be k n))[size - 1 - k]? = some (.int .u8 0) by rw [u8s, List.getElem?_map, List.getElem?_append_left (by rw [List.length_replicate]; omega), List.getElem?_replicate, if_pos (by omega)]; rfl] at hce
      clear hB hO HW
      have HL := hid_in hlt
      go_wp2_with fail
      refine ⟨⟨k + 1, HL.out, by simp, ?_, ?_⟩, by have := HL.out; simp [intOf]; omega⟩
      · rw [Nat.pow_succ, ← Nat.div_div_eq_div_mul]; simp
      · show _ ∧ _
        refine ⟨HB.out.setCell (by simp) _, ?_⟩
        have h := (World.ownsRow.stored HO.out (size - 1 - k) (Value.int IntKind.u8 ((n : Int) / 256 ^ k % 256))).1
        have e1 : (Value.int IntKind.u8 ((n : Int) / 256 ^ k % 256)) = .int .u8 ((UInt8.ofNat (n / 256 ^ k)).toNat : Int) := by rw [byte_of]; simp
        have e2 := put_be (size - 1 - k) k n
        have hlt := HL.out
        rw [show size - 1 - k + 1 = size - k by omega] at e2
        rw [e1, u8s_set, e2] at h
        rw [e1, show size - (k + 1) = size - 1 - k by omega]
        exact h
    · have hk' : k = size := by omega
      have HK := hid_in hk'
      clear hB hO HW
      have hcv := owns_text HO.out (by rw [List.length_append, List.length_replicate, be_len]; omega)
      go_wp2_with fail
      go_ret
      refine ⟨?_, HB.out⟩
      rw [HK.out]; simp
end Go.Proofs.YtefmmopkikpnhaaGreatDoor

namespace Go.Proofs.YtefmmopkikpnhaaGreatDoor
open Go.RowKit Go.LatT Go.BlockM Go.PlainAid Go.OpnT Go.ApdG Go.BytM Go.AesM Go.RowQ
set_option linter.unusedVariables false
set_option linter.unusedSimpArgs false
theorem iniA : uA 8 ini = #[.int .u32 1779033703, .int .u32 3144134277, .int .u32 1013904242, .int .u32 2773480762, .int .u32 1359893119, .int .u32 2600822924, .int .u32 528734635, .int .u32 1541459225] := by kernel_rfl
theorem zeroS (w : World) : (zeroValue 189).run Tryz.prog w = .ok (.agg #[.int .u32 0, .int .u32 0, .int .u32 0, .int .u32 0, .int .u32 0, .int .u32 0, .int .u32 0, .int .u32 0, .int .u8 0, .int .u8 0, .int .u8 0, .int .u8 0, .int .u8 0, .int .u8 0, .int .u8 0, .int .u8 0, .int .u8 0, .int .u8 0, .int .u8 0, .int .u8 0, .int .u8 0, .int .u8 0, .int .u8 0, .int .u8 0, .int .u8 0, .int .u8 0, .int .u8 0, .int .u8 0, .int .u8 0, .int .u8 0, .int .u8 0, .int .u8 0, .int .u8 0, .int .u8 0, .int .u8 0, .int .u8 0, .int .u8 0, .int .u8 0, .int .u8 0, .int .u8 0, .int .u8 0, .int .u8 0, .int .u8 0, .int .u8 0, .int .u8 0, .int .u8 0, .int .u8 0, .int .u8 0, .int .u8 0, .int .u8 0, .int .u8 0, .int .u8 0, .int .u8 0, .int .u8 0, .int .u8 0, .int .u8 0, .int .u8 0, .int .u8 0, .int .u8 0, .int .u8 0, .int .u8 0, .int .u8 0, .int .u8 0, .int .u8 0, .int .u8 0, .int .u8 0, .int .u8 0, .int .u8 0, .int .u8 0, .int .u8 0, .int .u8 0, .int .u8 0, .int .i64 0, .int .u64 0]) w := by kernel_rfl
theorem iniS : (#[.int .u32 1779033703, .int .u32 3144134277, .int .u32 1013904242, .int .u32 2773480762, .int .u32 1359893119, .int .u32 2600822924, .int .u32 528734635, .int .u32 1541459225, .int .u8 0, .int .u8 0, .int .u8 0, .int .u8 0, .int .u8 0, .int .u8 0, .int .u8 0, .int .u8 0, .int .u8 0, .int .u8 0, .int .u8 0, .int .u8 0, .int .u8 0, .int .u8 0, .int .u8 0, .int .u8 0, .int .u8 0, .int .u8 0, .int .u8 0, .int .u8 0, .int .u8 0, .int .u8 0, .int .u8 0, .int .u8 0, .int .u8 0, .int .u8 0, .int .u8 0, .int .u8 0, .int .u8 0, .int .u8 0, .int .u8 0, .int .u8 0, .int .u8 0, .int .u8 0, .int .u8 0, .int .u8 0, .int .u8 0, .int .u8 0, .int .u8 0, .int .u8 0, .int .u8 0, .int .u8 0, .int .u8 0, .int .u8 0, .int .u8 0, .int .u8 0, .int .u8 0, .int .u8 0, .int .u8 0, .int .u8 0, .int .u8 0, .int .u8 0, .int .u8 0, .int .u8 0, .int .u8 0, .int .u8 0, .int .u8 0, .int .u8 0, .int .u8 0, .int .u8 0, .int .u8 0, .int .u8 0, .int .u8 0, .int .u8 0, .int .i64 0, .int .u64 0] : Array Value) = (sL ini (fun _ => 0) 0 0).toArray := by kernel_rfl
set_option maxHeartbeats 4000000 in
set_option maxRecDepth 100000 in
theorem newSum_any (w : World) (hK : GK w) :
    Calls Tryz.prog 158 #[] w fun e w' => e = .returned (.pointer (some ⟨w.heap.size, 0, none⟩)) ∧ SX w' w.heap.size ini (fun _ => 0) 0 0 ∧ Below w.heap.size w w' := by
  have HK : Hid (∀ j, j < 8 → w.cell? ((⟨1, 0, none⟩ : Addr).add j) = (#[.int .u32 1779033703, .int .u32 3144134277, .int .u32 1013904242, .int .u32 2773480762, .int .u32 1359893119, .int .u32 2600822924, .int .u32 528734635, .int .u32 1541459225] : Array Value)[j]?) := fun j hj => by
    rw [← iniA, add_at, Nat.zero_add, hK.st j hj, uA_get 8 ini j hj]
  clear hK
  have hz := zeroS
  go_enter Tryz.func158, Tryz.ntmps158
  go_wp2_with (first | (refine wpList_load_at aggWd8 rfl _ rfl ⟨1, 0, none⟩ rfl #[.int .u32 1779033703, .int .u32 3144134277, .int .u32 1013904242, .int .u32 2773480762, .int .u32 1359893119, .int .u32 2600822924, .int .u32 528734635, .int .u32 1541459225] rfl HK.out ?_))
  go_ret
  refine ⟨rfl, ?_, below_box _ _⟩
  show _ = _
  rw [← iniS]
  exact heap_alloc_new w _
theorem be_get : ∀ (k n i : Nat), i < k → (be k n)[i]? = some (UInt8.ofNat (n / 256 ^ (k - 1 - i)))
  | 0, _, _, h => by omega
  | k + 1, n, i, h => by
    rw [be]
    by_cases e : i < k
    · rw [List.getElem?_append_left (by rw [be_len]; exact e), be_get k (n / 256) i e, Nat.div_div_eq_div_mul, ← Nat.pow_succ', show (k - 1 - i).succ = k + 1 - 1 - i by omega]
    · have : i = k := by omega
      subst this
      rw [List.getElem?_append_right (by rw [be_len]; omega), be_len]
      simp
theorem bn_of (l : List UInt8) (i : Nat) (h : i < l.length) : bn ⟨l.toArray⟩ i = l[i].toNat := by
  unfold bn bt
  rw [dif_pos (by show i < (ByteArray.mk l.toArray).size; simpa [ByteArray.size] using h)]
  simp
  rfl
theorem bn_be (k n i : Nat) (h : i < k) : bn ⟨(be k n).toArray⟩ i = n / 256 ^ (k - 1 - i) % 256 := by
  have h2 : i < (be k n).length := by rw [be_len]; exact h
  rw [bn_of _ _ h2]
  have := be_get k n i h
  rw [List.getElem?_eq_getElem h2] at this
  rw [Option.some.inj this]
  simp
/-- The bytes of the first i words. -/
def wtx (s : Nat → Nat) (i : Nat) : List UInt8 := (List.range (4 * i)).map fun j => UInt8.ofNat (wby s j)
theorem ofNat_mod (n : Nat) : UInt8.ofNat (n % 256) = UInt8.ofNat n := by
  apply UInt8.toNat_inj.1
  simp
theorem wtx_succ (s : Nat → Nat) (i : Nat) : wtx s (i + 1) = wtx s i ++ be 4 (s i) := by
  unfold wtx
  rw [show 4 * (i + 1) = 4 * i + 1 + 1 + 1 + 1 by omega, List.range_succ, List.range_succ, List.range_succ, List.range_succ]
  simp only [List.map_append, List.append_assoc, List.map_cons, List.map_nil]
  congr 1
  have e0 : wby s (4 * i) = s i / 256 ^ 3 % 256 := by unfold wby; rw [show 4 * i / 4 = i by omega, show 3 - 4 * i % 4 = 3 by omega]
  have e1 : wby s (4 * i + 1) = s i / 256 ^ 2 % 256 := by unfold wby; rw [show (4 * i + 1) / 4 = i by omega, show 3 - (4 * i + 1) % 4 = 2 by omega]
  have e2 : wby s (4 * i + 1 + 1) = s i / 256 ^ 1 % 256 := by unfold wby; rw [show (4 * i + 1 + 1) / 4 = i by omega, show 3 - (4 * i + 1 + 1) % 4 = 1 by omega]
  have e3 : wby s (4 * i + 1 + 1 + 1) = s i / 256 ^ 0 % 256 := by unfold wby; rw [show (4 * i + 1 + 1 + 1) / 4 = i by omega, show 3 - (4 * i + 1 + 1 + 1) % 4 = 0 by omega]
  rw [e0, e1, e2, e3, ofNat_mod, ofNat_mod, ofNat_mod, ofNat_mod, be_cons, be_cons, be_cons, be_cons]
  simp [be]
theorem str_app (a b : List UInt8) : (⟨a.toArray⟩ : ByteArray) ++ ⟨b.toArray⟩ = ⟨(a ++ b).toArray⟩ := by
  apply bl_inj
  rw [bl_append, bl_of, bl_of, bl_of]
theorem pad_at {f : Nat → Nat} {n : Nat} : pad f n n = 128 := by unfold pad; rw [if_neg (by omega), if_pos rfl]
theorem pad_zero {f : Nat → Nat} {n i : Nat} (h : n < i) (h2 : i < padN n - 8) : pad f n i = 0 := by unfold pad; rw [if_neg (by omega), if_neg (by omega), if_pos h2]
theorem pad_end {f : Nat → Nat} {n i : Nat} (h2 : padN n - 8 ≤ i) : pad f n i = (8 * n) / 256 ^ (padN n - 1 - i) % 256 := by
  have : n < padN n - 8 := by unfold padN; omega
  unfold pad; rw [if_neg (by omega), if_neg (by omega), if_neg (by omega)]
/-- How many bytes are told in a sum. -/
def told (g : Nat) (w : World) : Nat := match w.cell? ⟨g, 73, none⟩ with
  | some (.int _ z) => z.toNat
  | _ => 0
theorem told_of {g : Nat} {w W : World} {f : Nat → Nat} {n z : Nat} (h : SW g w W f n z) : told g W = z := by
  obtain ⟨b, h⟩ := h.sm
  unfold told
  rw [h.sx.cz]
  simp
theorem SW.here {g : Nat} {w W : World} {f : Nat → Nat} {n z : Nat} (h : SW g w W f n z) : SW g W W f n z := ⟨h.sm, Mv.refl g W, h.gk⟩
theorem SW.on {g : Nat} {w W W' : World} {f : Nat → Nat} {n z n' z' : Nat} (h : SW g w W f n z) (h' : SW g W W' f n' z') : SW g w W' f n' z' := ⟨h'.sm, h.mv.trans h'.mv, h'.gk⟩
theorem SW.later {g : Nat} {w W W' : World} {f : Nat → Nat} {n z : Nat} (h : SW g w W f n z) (hb : Below W.heap.size W W') : SW g w W' f n z := by
  obtain ⟨b, x⟩ := h.sm
  exact ⟨⟨b, x.sx.block (hb.block g x.sx.lt), x.lt, x.eq⟩, h.mv.later hb, h.gk.below hb h.gk.lt⟩
theorem SW.congr {g : Nat} {w W : World} {f f' : Nat → Nat} {n z : Nat} (h : SW g w W f n z) (e : ∀ i, i < n → f i = f' i) : SW g w W f' n z := by
  obtain ⟨b, x⟩ := h.sm
  refine ⟨⟨b, x.sx.congr (stt_congr _ (fun i hi => e i (by omega))) (fun _ _ => rfl), x.lt, fun i hi => ?_⟩, h.mv, h.gk⟩
  rw [x.eq i hi, e _ (by omega)]
theorem SW.lt {g : Nat} {w W : World} {f : Nat → Nat} {n z : Nat} (h : SW g w W f n z) : g < W.heap.size := by
  obtain ⟨b, x⟩ := h.sm
  exact x.sx.lt
set_option maxHeartbeats 4000000 in
set_option maxRecDepth 100000 in
theorem end_any (g m : Nat) (f : Nat → Nat) (w : World) (hg1 : 2 < g) (hS : SW g w w (pad f m) m m) (hm : m ≤ 3000000) :
    Calls Tryz.prog 106 #[.pointer (some ⟨g, 0, none⟩)] w fun e w' => e = .returned (.string (sumT f m)) ∧ Mv g w w' ∧ GK w' := by
  obtain ⟨b0, hm0⟩ := hS.sm
  have cz := hm0.sx.cz
  have hgl := hm0.sx.lt
  have e1 : IntKind.u64.wrap (8 * (m : Int)) = ((8 * m : Nat) : Int) := by rw [IntKind.wrap_u64]; omega
  have S0 := hid_in hS
  have HP := hid_in (show padN m = 64 * ((m + 8) / 64 + 1) from rfl)
  clear hS hm0
  go_enter Tryz.func106, Tryz.ntmps106
  go_wp2_with fail
  refine (write_any g ⟨#[128]⟩ (pad f m) m _ hg1 S0.out (by omega) (by decide) (fun i hi => by have hi' : i < 1 := hi; have : i = 0 := by omega
                                                                                               subst this; rw [Nat.add_zero, pad_at]; rfl)).mono ?_
  rintro e w1 ⟨⟨v, rfl⟩, S1⟩
  have S2 := hid_in (show SW g w w1 (pad f m) (m + 1) (m + 1) from S1)
  clear S1 cz hgl S0
  go_wp2_with fail
  obtain ⟨N, hN⟩ : ∃ N, padN m = N := ⟨_, rfl⟩
  have HN := hid_in hN
  have hN1 : N = 64 * ((m + 8) / 64 + 1) := hN.symm.trans HP.out
  have hP := hid_in hN1
  clear hN hN1
  go_loopw [14] (fun _ wr => ∃ p : Nat, m + 1 ≤ p ∧ p ≤ N - 8 ∧ Hid (SW g w wr (pad f m) p p)) (fun _ wr => N - told g wr)
  case atStart => exact ⟨m + 1, Nat.le_refl _, by have := hP.out; omega, S2⟩
  case round =>
    clear S2
    obtain ⟨p, hp1, hp2, HS⟩ := hrel
    obtain ⟨b, hsm⟩ := HS.out.sm
    obtain ⟨h, hh⟩ : ∃ h, p % 64 = h := ⟨_, rfl⟩
    have c72 := hsm.sx.ch
    rw [hh] at c72
    have hgw := hsm.sx.lt
    clear hsm
    by_cases h56 : h = 56
    · subst h56
      have HE := hid_in (show p = N - 8 by have := hP.out; omega)
      go_wp2_with fail
      rw [show (8 * (m : Int)) = ((8 * m : Nat) : Int) by omega]
      refine (bytesOf_any (8 * m) 8 _ (by omega) (by decide)).mono ?_
      rintro e w2 ⟨rfl, hb2⟩
      have S3 := hid_in (HS.out.later hb2)
      clear hb2 c72 hgw
      generalize ((8 * m : Nat) : Int) = M8 at *
      go_wp2_with fail
      refine (write_any g ⟨(be 8 (8 * m)).toArray⟩ (pad f m) p _ hg1 S3.out.here (by have := hP.out; omega) (by show (be 8 (8 * m)).toArray.size ≤ _; rw [List.size_toArray, be_len]; decide) (fun i hi => by
        have hi8 : i < 8 := by have : i < (be 8 (8 * m)).toArray.size := hi
                               rwa [List.size_toArray, be_len] at this
        rw [bn_be 8 _ i hi8, pad_end (by rw [HN.out]; have := HE.out; have := hP.out; omega), HN.out]
        have := HE.out; have := hP.out
        rw [show N - 1 - (p + i) = 8 - 1 - i by omega])).mono ?_
      rintro e w3 ⟨⟨v3, rfl⟩, S4⟩
      have hsz : (⟨(be 8 (8 * m)).toArray⟩ : ByteArray).size = 8 := by show (be 8 (8 * m)).toArray.size = _; rw [List.size_toArray, be_len]
      rw [hsz] at S4
      have S5 := hid_in (S3.out.on S4)
      have hpN : p + 8 = N := by have := HE.out; have := hP.out; omega
      rw [hpN] at S5
      obtain ⟨b5, hm5⟩ := S5.out.sm
      have HR := hid_in hm5.sx.row8
      have hg5 := hm5.sx.lt
      have HL := hid_in (stt_lt (pad f m) (N / 64))
      have HT := hid_in (show sumT f m = ⟨(wtx (stt (pad f m) (N / 64)) 8).toArray⟩ by unfold sumT wtx; rw [HN.out])
      clear S4 S3 hsz hpN hm5 HS
      generalize stt (pad f m) (N / 64) = s at *
      go_wp2_with (first | (refine wpList_load_at aggWd8 rfl _ rfl ⟨g, 0, none⟩ rfl (uA 8 s) (uA_size 8 s) HR.out ?_))
      go_loopw [4, 29] (fun v u wr => ∃ i : Nat, i ≤ 8 ∧ v = .string ⟨(wtx s i).toArray⟩ ∧ u = .int .i64 (i : Int) ∧ Hid (SW g w wr (pad f m) N N)) (fun _ u _ => 8 - (intOf u).toNat)
      case atStart => exact ⟨0, Nat.zero_le _, rfl, rfl, S5⟩
      case round =>
        clear S5 hg5
        obtain ⟨i, hi, rfl, rfl, HS⟩ := hrel
        by_cases hlt : i < 8
        · have q2 : (i : Int) < 8 := by omega
          have ix := idxW8 s i hlt
          have HI := hid_in hlt
          have hsi := HL.out i hlt
          have HW := hid_in (wtx_succ s i)
          generalize hS : s i = S at *
          have e4 : IntKind.u64.wrap (S : Int) = (S : Int) := by rw [IntKind.wrap_u64]; omega
          have HA := hid_in (str_app (wtx s i) (be 4 S))
          have hz1 : (⟨(wtx s i).toArray⟩ : ByteArray).size = 4 * i := by show (wtx s i).toArray.size = _; simp [wtx]
          have hz2 : (⟨(be 4 S).toArray⟩ : ByteArray).size = 4 := by show (be 4 S).toArray.size = _; rw [List.size_toArray, be_len]
          have hz3 := hid_in hz1
          have hz4 : (⟨(wtx s i).toArray⟩ : ByteArray).size ≤ 32 := by omega
          go_wp2_with fail
          refine (bytesOf_any S 4 _ (by omega) (by decide)).mono ?_
          rintro e w4 ⟨rfl, hb4⟩
          have S6 := hid_in (HS.out.later hb4)
          clear hb4
          go_wp2_with fail
          have hv : Value.string ({ data := (wtx s i).toArray } ++ { data := (be 4 S).toArray }) = Value.string { data := (wtx s (i + 1)).toArray } := by rw [HW.out, HA.out]
          refine ⟨⟨i + 1, HI.out, hv, by simp, S6⟩, ?_⟩
          have := HI.out; simp [intOf]; omega
        · have q2 : ¬ (i : Int) < 8 := by omega
          obtain rfl : i = 8 := by omega
          go_wp2_with fail
          go_ret
          exact ⟨by rw [HT.out]; rfl, HS.out.mv, HS.out.gk⟩
    · have q1 : ¬ (h : Int) = 56 := by omega
      have HE := hid_in (show p + 1 ≤ N - 8 by have := hP.out; omega)
      have HA := hid_in hp1
      go_wp2_with fail
      have hz0 := pad_zero (f := f) (n := m) (i := p) (by omega) (by rw [HN.out]; have := HE.out; omega)
      refine (write_any g ⟨#[0]⟩ (pad f m) p _ hg1 HS.out.here (by have := hP.out; omega) (by decide) (fun i hi => by have hi' : i < 1 := hi; have : i = 0 := by omega
                                                                                                                      subst this; rw [Nat.add_zero, hz0]; rfl)).mono ?_
      rintro e w2 ⟨⟨v, rfl⟩, S3⟩
      have S4 := hid_in (show SW g w w2 (pad f m) (p + 1) (p + 1) from HS.out.on S3)
      have T1 := hid_in (told_of HS.out)
      have T2 := hid_in (told_of S4.out)
      clear S3 c72 hgw hz0
      go_wp2_with fail
      exact ⟨⟨p + 1, by have := HA.out; omega, HE.out, S4⟩, by rw [T1.out, T2.out]; have := HE.out; have := hP.out; omega⟩
end Go.Proofs.YtefmmopkikpnhaaGreatDoor

namespace Go.Proofs.YtefmmopkikpnhaaGreatDoor
open Go.RowKit Go.LatT Go.BlockM Go.PlainAid Go.OpnT Go.ApdG Go.BytM Go.AesM Go.RowQ
set_option linter.unusedVariables false
set_option linter.unusedSimpArgs false
theorem pad_low {f : Nat → Nat} {n i : Nat} (h : i < n) : pad f n i = f i := by unfold pad; rw [if_pos h]
theorem SW.new {g : Nat} {W : World} (f : Nat → Nat) (x : SX W g ini (fun _ => 0) 0 0) (k : GK W) : SW g W W f 0 0 :=
  ⟨⟨fun _ => 0, x, fun _ _ => by omega, fun i hi => by simp at hi⟩, Mv.refl g W, k⟩
theorem sumT_size (f : Nat → Nat) (n : Nat) : (sumT f n).size = 32 := by
  show (Array.size _) = 32
  simp
/-- A key of 64 bytes, each put together with another one. -/
def kb (s : ByteArray) (c : Nat) (i : Nat) : Nat := (if i < s.size then bn s i else 0) ^^^ c
theorem zeroB64 : (#[.int .u8 0, .int .u8 0, .int .u8 0, .int .u8 0, .int .u8 0, .int .u8 0, .int .u8 0, .int .u8 0, .int .u8 0, .int .u8 0, .int .u8 0, .int .u8 0, .int .u8 0, .int .u8 0, .int .u8 0, .int .u8 0, .int .u8 0, .int .u8 0, .int .u8 0, .int .u8 0, .int .u8 0, .int .u8 0, .int .u8 0, .int .u8 0, .int .u8 0, .int .u8 0, .int .u8 0, .int .u8 0, .int .u8 0, .int .u8 0, .int .u8 0, .int .u8 0, .int .u8 0, .int .u8 0, .int .u8 0, .int .u8 0, .int .u8 0, .int .u8 0, .int .u8 0, .int .u8 0, .int .u8 0, .int .u8 0, .int .u8 0, .int .u8 0, .int .u8 0, .int .u8 0, .int .u8 0, .int .u8 0, .int .u8 0, .int .u8 0, .int .u8 0, .int .u8 0, .int .u8 0, .int .u8 0, .int .u8 0, .int .u8 0, .int .u8 0, .int .u8 0, .int .u8 0, .int .u8 0, .int .u8 0, .int .u8 0, .int .u8 0, .int .u8 0] : Array Value) = rC 64 (fun _ => 0) := by kernel_rfl
theorem rC_copy (r : ByteArray) (k : Nat) (hk : k ≤ 64) (hr : k ≤ r.size) :
    ((rC 64 fun _ => 0).toList.take 0 ++ Lib.byteCells (r.data.toList.take k) ++ (rC 64 fun _ => 0).toList.drop (0 + k)).toArray = rC 64 (fun i => if i < k then bn r i else 0) := by
  apply Array.ext_getElem?
  intro i
  have hlen : (Lib.byteCells (r.data.toList.take k)).length = k := by rw [Lib.byteCells_length, List.length_take, r.data.length_toList]; have : r.data.size = r.size := rfl; omega
  rw [List.getElem?_toArray, List.take_zero, List.nil_append]
  by_cases h1 : i < k
  · rw [List.getElem?_append_left (by rw [hlen]; exact h1), byteCells_get r k i h1 hr, rC_get _ _ _ (by omega), if_pos h1]
  · rw [List.getElem?_append_right (by rw [hlen]; omega), hlen, List.getElem?_drop, show 0 + k + (i - k) = i by omega, Array.getElem?_toList]
    by_cases h2 : i < 64
    · rw [rC_get _ _ _ h2, rC_get _ _ _ h2, if_neg h1]
    · rw [Array.getElem?_eq_none (by rw [rC_size]; omega), Array.getElem?_eq_none (by rw [rC_size]; omega)]
/-- A key of 64 bytes, each put together with another one, as a text. -/
def kT (s : ByteArray) (c : Nat) : ByteArray := ⟨((List.range 64).map fun i => UInt8.ofNat (kb s c i)).toArray⟩
theorem kb_lt (s : ByteArray) (c i : Nat) (hc : c < 256) : kb s c i < 256 := by
  have := bn_lt s i
  unfold kb
  refine xor_lt ?_ hc
  split
  · exact this
  · decide
theorem kT_size (s : ByteArray) (c : Nat) : (kT s c).size = 64 := by
  show (Array.size _) = 64
  simp
theorem bn_kT (s : ByteArray) (c i : Nat) (hc : c < 256) (hi : i < 64) : bn (kT s c) i = kb s c i := by
  unfold kT
  rw [bn_of _ _ (by simpa using hi)]
  have := kb_lt s c i hc
  simp
  omega
/-- What a sum to which a key was written is. -/
def KyP (w : World) (s : ByteArray) (c : Nat) (e : Ending) (w' : World) : Prop := ∃ g, e = .returned (.pointer (some ⟨g, 0, none⟩)) ∧ w.heap.size ≤ g ∧ Below w.heap.size w w' ∧ ∀ f : Nat → Nat, (∀ i, i < 64 → f i = kb s c i) → SW g w' w' f 64 64
theorem RB.setRow_of {W : World} {g n : Nat} {t : TypeId} {f f' : Nat → Nat} (h : RB W g n t f) : RB (W.setRow g (rC n f')) g n t f' := setRow_heap W g _ _ t (0, 0) h
set_option maxHeartbeats 2000000 in
set_option maxRecDepth 100000 in
theorem keyed_any (s : ByteArray) (c : Nat) (w : World) (hK : GK w) (hs : s.size ≤ 64) (hc : c < 256) :
    Calls Tryz.prog 104 #[.string s, .int .u8 (c : Int)] w fun e w' => KyP w s c e w' := by
  have R0 := hid_in (RB.new w 64 185 (fun _ => 0))
  have hcp := fun ty => run_copy_cut (P := Tryz.prog) (w.alloc (.cells (rC 64 fun _ => 0) 185)) 25 9 ty 5 w.heap.size 0 64 64 s _ 185 s.size Tryz.underlying25 bits8 R0.out (Nat.min_eq_left hs) (by rw [rC_size]; omega)
  rw [rC_copy s s.size hs (Nat.le_refl _)] at hcp
  have R1 := hid_in (RB.setRow_of (f' := fun i => if i < s.size then bn s i else 0) R0.out)
  have Z1 := hid_in (Below_setRow (g := w.heap.size) (cs := rC 64 fun i => if i < s.size then bn s i else 0) (below_box w (.cells (rC 64 fun _ => 0) 185)) (Nat.le_refl _))
  rw [← zeroB64] at hcp R1 Z1
  have hc3 := hcp 3
  clear hcp R0
  have HK := hid_in hK
  have hg1 := hK.lt
  clear hK
  go_enter Tryz.func104, Tryz.ntmps104
  go_wp2_with fail
  generalize (World.setRow _ w.heap.size (rC 64 fun i => if i < s.size then bn s i else 0)) = W0 at *
  go_loopw [11] (fun u wr => ∃ k : Nat, k ≤ 64 ∧ u = .int .i64 (k : Int) ∧ Hid (RB wr w.heap.size 64 185 (fun i => if i < k then kb s c i else if i < s.size then bn s i else 0)) ∧ Hid (Below w.heap.size w wr)) (fun u _ => 64 - (intOf u).toNat)
  case atStart => exact ⟨0, Nat.zero_le _, rfl, R1.out.congr (fun i _ => by rw [if_neg (Nat.not_lt_zero i)]), Z1⟩
  case round =>
    clear R1 Z1
    obtain ⟨k, hk, rfl, HR, HB⟩ := hrel
    by_cases hlt : k < 64
    · have HL := hid_in hlt
      have q1 : (k : Int) < 64 := by omega
      have ck := HR.out.cell k hlt
      rw [if_neg (Nat.lt_irrefl k)] at ck
      have fk := HR.out.frozen k
      have hgw := HR.out.lt
      obtain ⟨X, hX⟩ : ∃ X, (if k < s.size then bn s k else 0) = X := ⟨_, rfl⟩
      have hX2 : X < 256 := by
        rw [← hX]
        by_cases e : k < s.size
        · rw [if_pos e]; exact bn_lt s k
        · rw [if_neg e]; decide
      rw [hX] at ck
      have HX := hid_in (show kb s c k = X ^^^ c by unfold kb; rw [hX])
      have hx := xor8 X c hX2 hc
      clear hX
      go_wp2_with fail
      refine ⟨⟨k + 1, HL.out, by simp, ?_, HB.out.setCell (Nat.le_refl _) _⟩, by have := HL.out; simp [intOf]; omega⟩
      refine (HR.out.set k (X ^^^ c)).congr (fun i _ => ?_)
      show (if i = k then X ^^^ c else if i < k then kb s c i else if i < s.size then bn s i else 0) = if i < k + 1 then kb s c i else if i < s.size then bn s i else 0
      by_cases e : i = k
      · rw [if_pos e, if_pos (by omega), e, HX.out]
      · by_cases e2 : i < k
        · rw [if_neg e, if_pos e2, if_pos (by omega)]
        · rw [if_neg e, if_neg e2, if_neg (show ¬ i < k + 1 by omega)]
    · have q1 : ¬ (k : Int) < 64 := by omega
      obtain rfl : k = 64 := by omega
      have R2 := hid_in (HR.out.congr (f' := kb s c) (fun i hi => by show (if i < 64 then _ else _) = _; rw [if_pos hi]))
      have K2 := HK.out.below HB.out hg1
      clear HR
      go_wp2_with fail
      refine (newSum_any wr K2).mono ?_
      rintro e w1 ⟨rfl, hx, hb1⟩
      have K3 := hid_in (K2.below hb1 K2.lt)
      have X3 := hid_in hx
      have R3 := hid_in (show RB w1 w.heap.size 64 185 (kb s c) by unfold RB; rw [hb1.block _ R2.out.lt]; exact R2.out)
      have B3 := hid_in (below_later HB.out hb1)
      have hgt := hid_in HB.out.size
      have hcv := run_convert_bytes_back (P := Tryz.prog) w1 25 9 5 ⟨w.heap.size, 0, none⟩ 64 ((List.range 64).map fun i => UInt8.ofNat (kb s c i)) Tryz.underlying25 Tryz.underlying5 Tryz.underlying9 (fun j hj => by
        have hj' : j < 64 := by simpa using hj
        have hb := R3.out.cell j hj'
        rw [add_at, Nat.zero_add, hb]
        have := kb_lt s c j hc
        simp
        omega)
      rw [show ((List.range 64).map fun i => UInt8.ofNat (kb s c i)).length = 64 by simp] at hcv
      rw [show (⟨((List.range 64).map fun i => UInt8.ofNat (kb s c i)).toArray⟩ : ByteArray) = kT s c from rfl] at hcv
      clear hx hb1 K2 R2 HB
      have hg1' := R3.out.lt
      have hsz := kT_size s c
      go_wp2_with fail
      refine (write_any wr.heap.size (kT s c) (fun i => kb s c i) 0 _ (by have := hgt.out; omega) (SW.new _ X3.out K3.out) (by omega) (by omega) (fun i hi => by rw [Nat.zero_add, bn_kT s c i hc (by omega)])).mono ?_
      rintro e w2 ⟨⟨v, rfl⟩, S2⟩
      rw [Nat.zero_add, hsz] at S2
      have S3 := hid_in S2
      clear S2
      go_wp2_with fail
      go_ret
      exact ⟨wr.heap.size, rfl, hgt.out, B3.out.trans (S3.out.mv.below B3.out.size hgt.out), fun f hf => S3.out.here.congr (fun i hi => (hf i hi).symm)⟩
end Go.Proofs.YtefmmopkikpnhaaGreatDoor

namespace Go.Proofs.YtefmmopkikpnhaaGreatDoor
open Go.RowKit Go.LatT Go.BlockM Go.PlainAid Go.OpnT Go.ApdG Go.BytM Go.AesM Go.RowQ
set_option linter.unusedVariables false
set_option linter.unusedSimpArgs false
/-- 64 bytes, and a text behind them. -/
def cat2 (a : Nat → Nat) (t : ByteArray) : Nat → Nat := fun i => if i < 64 then a i else bn t (i - 64)
def inT (key text : ByteArray) : ByteArray := sumT (cat2 (kb key 54) text) (64 + text.size)
/-- The tag of a text by a key. -/
def tgT (key text : ByteArray) : ByteArray := (sumT (cat2 (kb key 92) (inT key text)) (64 + 32)).extract 0 16
theorem inT_size (key text : ByteArray) : (inT key text).size = 32 := sumT_size _ _
theorem cat2_low (a : Nat → Nat) (t : ByteArray) (n i : Nat) (hn : 64 ≤ n) (h : i < 64) : pad (cat2 a t) n i = a i := by
  rw [pad_low (by omega)]; unfold cat2; rw [if_pos h]
theorem cat2_high (a : Nat → Nat) (t : ByteArray) (i : Nat) (h : i < t.size) : pad (cat2 a t) (64 + t.size) (64 + i) = bn t i := by
  rw [pad_low (by omega)]; unfold cat2; rw [if_neg (by omega), show 64 + i - 64 = i by omega]
theorem SW.other {g g1 : Nat} {w W W' : World} {f : Nat → Nat} {n z : Nat} (h : SW g w W f n z) (m : Mv g1 W W') (hg : g ≠ g1) (hg1 : 2 < g1) : SW g W' W' f n z := by
  obtain ⟨b, x⟩ := h.sm
  exact ⟨⟨b, x.sx.block (m.block g x.sx.lt hg), x.lt, x.eq⟩, Mv.refl g W', h.gk.mv m hg1⟩
set_option maxHeartbeats 2000000 in
set_option maxRecDepth 100000 in
theorem tagI_any (s t : ByteArray) (w : World) (hK : GK w) (hs : s.size ≤ 1048576) (ht : t.size ≤ 1048576) :
    Calls Tryz.prog 56 #[.string s, .string t] w fun e w' => e = .returned (.string (if 64 < s.size then ⟨#[]⟩ else tgT s t)) ∧ Below w.heap.size w w' := by
  have HK := hid_in hK
  have hg1 := hK.lt
  clear hK
  by_cases hlt : 64 < s.size
  · have q1 : (64 : Int) < (s.size : Int) := by omega
    rw [if_pos hlt]
    go_enter Tryz.func56, Tryz.ntmps56
    go_wp2_with fail
    go_ret
    exact ⟨rfl, Below.refl _ _⟩
  · have q1 : ¬ (64 : Int) < (s.size : Int) := by omega
    have hle : s.size ≤ 64 := by omega
    rw [if_neg hlt]
    go_enter Tryz.func56, Tryz.ntmps56
    go_wp2_with fail
    refine (keyed_any s 54 w HK.out hle (by decide)).mono ?_
    rintro e w1 ⟨g1, rfl, hg, hb1, hS1⟩
    have S1 := hid_in hS1
    have B1 := hid_in hb1
    have K1 := HK.out.below hb1 hg1
    have hgl1 := hid_in (hS1 _ (fun _ _ => rfl)).lt
    clear hS1 hb1
    go_wp2_with fail
    refine (keyed_any s 92 w1 K1 hle (by decide)).mono ?_
    rintro e w2 ⟨g2, rfl, hgg, hb2, hS2⟩
    have S2 := hid_in hS2
    have B2 := hid_in (below_later B1.out hb2)
    have S1' : Hid (∀ f : Nat → Nat, (∀ i, i < 64 → f i = kb s 54 i) → SW g1 w2 w2 f 64 64) := fun f hf => ((S1.out f hf).later hb2).here
    have hne : g2 ≠ g1 := by have := hgl1.out; omega
    have hg1' : 2 < g1 := by omega
    have hg2' : 2 < g2 := by have := B1.out.size; omega
    have HG := hid_in (show w.heap.size ≤ g1 ∧ w.heap.size ≤ g2 ∧ g2 ≠ g1 from ⟨hg, by have := B1.out.size; omega, hne⟩)
    clear hS2 hb2 S1 hgl1 hg hgg hne
    go_wp2_with fail
    refine (write_any g1 t (pad (cat2 (kb s 54) t) (64 + t.size)) 64 _ hg1' (S1'.out _ (fun i hi => cat2_low _ _ _ _ (by omega) hi)) (by omega) (by omega) (fun i hi => (cat2_high _ _ _ hi).symm)).mono ?_
    rintro e w3 ⟨⟨v, rfl⟩, S3⟩
    have T3 := hid_in S3
    clear S3
    go_wp2_with fail
    refine (end_any g1 (64 + t.size) (cat2 (kb s 54) t) _ hg1' T3.out.here (by omega)).mono ?_
    rintro e w4 ⟨rfl, m4, k4⟩
    have M4 := hid_in (T3.out.mv.trans m4)
    have S4 : Hid (∀ f : Nat → Nat, (∀ i, i < 64 → f i = kb s 92 i) → SW g2 w4 w4 f 64 64) := fun f hf => (S2.out f hf).other M4.out HG.out.2.2 hg1'
    clear m4 k4 S2
    rw [show sumT (cat2 (kb s 54) t) (64 + t.size) = inT s t from rfl]
    go_wp2_with fail
    refine (write_any g2 (inT s t) (pad (cat2 (kb s 92) (inT s t)) (64 + (inT s t).size)) 64 _ hg2' (S4.out _ (fun i hi => cat2_low _ _ _ _ (by omega) hi)) (by omega) (by rw [inT_size]; decide) (fun i hi => (cat2_high _ _ _ hi).symm)).mono ?_
    rintro e w5 ⟨⟨v5, rfl⟩, S5⟩
    have T5 := hid_in S5
    clear S5
    go_wp2_with fail
    refine (end_any g2 (64 + (inT s t).size) (cat2 (kb s 92) (inT s t)) _ hg2' T5.out.here (by rw [inT_size]; decide)).mono ?_
    rintro e w6 ⟨rfl, m6, k6⟩
    have M6 := hid_in (T5.out.mv.trans m6)
    have HT := hid_in (show tgT s t = (sumT (cat2 (kb s 92) (inT s t)) (64 + (inT s t).size)).extract 0 16 by unfold tgT; rw [inT_size])
    have hsz := sumT_size (cat2 (kb s 92) (inT s t)) (64 + (inT s t).size)
    clear m6 k6
    generalize sumT (cat2 (kb s 92) (inT s t)) (64 + (inT s t).size) = R at *
    go_wp2_with fail
    go_ret
    exact ⟨by rw [HT.out]; rfl, (B2.out.trans (M4.out.below B2.out.size HG.out.1)).trans (M6.out.below (Nat.le_trans B2.out.size M4.out.size) HG.out.2.1)⟩
end Go.Proofs.YtefmmopkikpnhaaGreatDoor

