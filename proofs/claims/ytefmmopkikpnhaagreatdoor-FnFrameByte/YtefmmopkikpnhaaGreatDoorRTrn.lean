/- What is proved: the contracts of TrnA, one behind the other. The conditions stand at each theorem. -/
import Derived.Test.YtefmmopkikpnhaaGreatDoorRFdC
namespace Go.Proofs.YtefmmopkikpnhaaGreatDoor
open Go.RowKit Go.LatT Go.BlockM Go.PlainAid Go.OpnT Go.ApdG Go.BytM Go.AesM Go.RowQ Go.RegE
set_option linter.unusedVariables false
set_option linter.unusedSimpArgs false
/-- The byte k of a text turned by d. -/
def tnF (u : ByteArray) (k d : Nat) (i : Nat) : Nat := if i = k then bn u i ^^^ d else bn u i
def tnT (u : ByteArray) (k d : Nat) : ByteArray := txt u.size (tnF u k d)
theorem tnF_by {u : ByteArray} {k d : Nat} (hd : d < 256) (i : Nat) : tnF u k d i < 256 := by
  unfold tnF; split
  · exact xor_lt (bn_lt u i) hd
  · exact bn_lt u i
theorem tnT_size (u : ByteArray) (k d : Nat) : (tnT u k d).size = u.size := txt_size _ _
theorem tnT_bn {u : ByteArray} {k d : Nat} (hd : d < 256) (i : Nat) (hi : i < u.size) : bn (tnT u k d) i = tnF u k d i := by
  unfold tnT; rw [txt_get _ _ _ hi]; exact Nat.mod_eq_of_lt (tnF_by hd i)
theorem tn_conv {w : World} {g cap : Nat} {u : ByteArray} {k d : Nat} (hd : d < 256) (h : ∀ j, j < u.size → w.cell? ⟨g, j, none⟩ = some (.int .u8 (tnF u k d j : Int))) : (convert 25 9 (.slice (some ⟨g, 0, none⟩) u.size cap)).run Tryz.prog w = .ok (.string (tnT u k d)) w := by
  have := run_convert_bytes_back (P := Tryz.prog) w 25 9 5 ⟨g, 0, none⟩ cap (tl u.size (tnF u k d)) Tryz.underlying25 Tryz.underlying5 Tryz.underlying9 fun j hj => by
    rw [tl_len] at hj
    have e : (Addr.add ⟨g, 0, none⟩ j) = ⟨g, j, none⟩ := by simp [Addr.add, eq_comm]
    rw [e, h j hj]
    have := tnF_by (u := u) (k := k) hd j
    simp [tl, hj]
    omega
  rw [tl_len] at this
  exact this
theorem conv_newC (u : ByteArray) (w : World) : ∃ W c, (convert 9 25 (.string u)).run Tryz.prog w = .ok (.slice (some ⟨w.heap.size, 0, none⟩) u.size c) W ∧ W.heap.size = w.heap.size + 1 ∧ (∀ j, j < u.size → W.cell? ⟨w.heap.size, j, none⟩ = some (.int .u8 (bt u j))) ∧ (∀ j, j < u.size → W.frozen? ⟨w.heap.size, j, none⟩ = false) ∧ u.size ≤ c ∧ Below w.heap.size w W := by
  refine ⟨_, _, run_bytes_of_string w 9 25 5 u Tryz.underlying9 Tryz.underlying25 Tryz.underlying5, by simp, fun j hj => ?_, fun j hj => ?_, ?_, ?_⟩
  · have h1 := World.cell?_alloc_mark w.drew (bytesRow u (grownCap w u.size 0 5)) 5 ((bytesRow u (grownCap w u.size 0 5)).size, (bytesRow u (grownCap w u.size 0 5)).size + 1) j
    have h2 := bytesRow_at u (grownCap w u.size 0 5) j hj
    rw [h2] at h1
    have e : bt u j = (u.data[j].toNat : Int) := by unfold bt; rw [dif_pos hj]; rfl
    rw [e]
    exact h1
  · have h1 := World.frozen?_alloc_mark w.drew (bytesRow u (grownCap w u.size 0 5)) 5 (bytesRow u (grownCap w u.size 0 5)).size ((bytesRow u (grownCap w u.size 0 5)).size + 1) j
    have h2 : u.size ≤ (bytesRow u (grownCap w u.size 0 5)).size := by simp [bytesRow]
    rw [show (decide ((bytesRow u (grownCap w u.size 0 5)).size ≤ j)) = false by simp; omega, Bool.false_and] at h1
    exact h1
  · exact grownCap_ge _ _ _ _
  · show Below _ _ _; go_grown
theorem tn_set {w W : World} {B g c : Nat} {u : ByteArray} {k d : Nat} (hd : d < 256) (hk : k < u.size) (h : ∀ j, j < u.size → W.cell? ⟨g, j, none⟩ = some (.int .u8 (bt u j))) (hB : Below B w W) (hg : B ≤ g) :
    (convert 25 9 (.slice (some ⟨g, 0, none⟩) u.size c)).run Tryz.prog (W.setCell ⟨g, k, none⟩ (.int .u8 (bits .xor .u8 (bt u k) (d : Int)))) = .ok (.string (tnT u k d)) (W.setCell ⟨g, k, none⟩ (.int .u8 (bits .xor .u8 (bt u k) (d : Int)))) ∧ Below B w (W.setCell ⟨g, k, none⟩ (.int .u8 (bits .xor .u8 (bt u k) (d : Int)))) := by
  refine ⟨tn_conv hd fun j hj => ?_, hB.setCell hg _⟩
  by_cases e : j = k
  · subst e
    rw [World.cell?_setCell_same' _ _ _ (by rw [h j hj]; rfl)]
    unfold tnF
    rw [if_pos rfl, ← bn_int, xor8 _ _ (bn_lt _ _) hd]
  · rw [World.cell?_setCell_other _ _ _ _ (by intro x; apply e; injection x with _ x _; exact x.symm), h j hj, ← bn_int]
    unfold tnF
    rw [if_neg e]
theorem tn_cells {w W : World} {g : Nat} {u : ByteArray} {k d : Nat} (hd : d < 256) (hk : k < u.size) (h : ∀ j, j < u.size → w.cell? ⟨g, j, none⟩ = some (.int .u8 (bt u j))) (hW : W.heap = (w.setCell ⟨g, k, none⟩ (.int .u8 (bits .xor .u8 (bt u k) (d : Int)))).heap) : ∀ j, j < u.size → W.cell? ⟨g, j, none⟩ = some (.int .u8 (tnF u k d j : Int)) := by
  intro j hj
  have e1 : W.cell? ⟨g, j, none⟩ = (w.setCell ⟨g, k, none⟩ (.int .u8 (bits .xor .u8 (bt u k) (d : Int)))).cell? ⟨g, j, none⟩ := by unfold World.cell?; rw [hW]
  rw [e1]
  by_cases e : j = k
  · subst e
    rw [World.cell?_setCell_same' _ _ _ (by rw [h j hj]; rfl)]
    unfold tnF
    rw [if_pos rfl, ← bn_int, xor8 _ _ (bn_lt _ _) hd]
  · rw [World.cell?_setCell_other _ _ _ _ (by intro x; apply e; injection x with _ x _; exact x.symm), h j hj, ← bn_int]
    unfold tnF
    rw [if_neg e]
/-- The beginning of a turned text, read back. -/
theorem tn_front {w : World} {g cap n : Nat} {u : ByteArray} {k d : Nat} (hd : d < 256) (hn : n ≤ u.size) (h : ∀ j, j < u.size → w.cell? ⟨g, j, none⟩ = some (.int .u8 (tnF u k d j : Int))) : (convert 25 9 (.slice (some ⟨g, 0, none⟩) n cap)).run Tryz.prog w = .ok (.string ((tnT u k d).extract 0 n)) w := by
  have hz : ((tnT u k d).extract 0 n).size = n := by rw [ByteArray.size_extract, tnT_size]; omega
  have := run_convert_bytes_back (P := Tryz.prog) w 25 9 5 ⟨g, 0, none⟩ cap ((tnT u k d).extract 0 n).data.toList Tryz.underlying25 Tryz.underlying5 Tryz.underlying9 fun j hj => by
    have hj' : j < n := by rw [← hz]; exact hj
    have e : (Addr.add ⟨g, 0, none⟩ j) = ⟨g, j, none⟩ := by simp [Addr.add, eq_comm]
    rw [e, h j (by omega), ← tnT_bn hd j (by omega)]
    have h2 := bn_extract (tnT u k d) 0 n j (by rw [tnT_size]; omega) (by omega)
    rw [Nat.zero_add] at h2
    rw [← h2, bn_int]
    have hjz : j < ((tnT u k d).extract 0 n).size := hj
    unfold bt
    rw [dif_pos hjz]
    rfl
  have e : ((tnT u k d).extract 0 n).data.toList.length = n := hz
  rw [e] at this
  exact this
theorem bn_eq {x y : ByteArray} (h : x.size = y.size) (hb : ∀ i, i < x.size → bn x i = bn y i) : x = y := by
  apply ByteArray.ext
  refine Array.ext h fun i h1 h2 => ?_
  have h1' : i < x.size := h1
  have h2' : i < y.size := h2
  have := hb i h1'
  unfold bn bt at this
  rw [dif_pos h1', dif_pos h2'] at this
  exact UInt8.toNat_inj.1 (show (x[i]'h1').toNat = (y[i]'h2').toNat by have e : (((x[i]'h1').toNat : Int)).toNat = (((y[i]'h2').toNat : Int)).toNat := this; simpa using e)
/-- A byte that is turned is another one: what a text ends with, or what it begins with, is as it was. -/
theorem tn_tail {u : ByteArray} {k d n : Nat} (hd : d < 256) (h0 : d ≠ 0) (hk : k < u.size) (hn : n ≤ u.size) {f : ByteArray → ByteArray} (h1 : u.extract n u.size = f (u.extract 0 n)) (h2 : (tnT u k d).extract n u.size = f ((tnT u k d).extract 0 n)) : k < n ∧ f ((tnT u k d).extract 0 n) = f (u.extract 0 n) := by
  by_cases hkn : k < n
  · refine ⟨hkn, ?_⟩
    rw [← h1, ← h2]
    refine bn_eq (by rw [ByteArray.size_extract, ByteArray.size_extract, tnT_size]) fun j hj => ?_
    rw [ByteArray.size_extract, tnT_size] at hj
    rw [bn_extract _ n u.size j (by rw [tnT_size]; omega) (by omega), bn_extract _ n u.size j (by omega) (by omega), tnT_bn hd _ (by omega)]
    unfold tnF
    rw [if_neg (by omega)]
  · exfalso
    have e : (tnT u k d).extract 0 n = u.extract 0 n := by
      refine bn_eq (by rw [ByteArray.size_extract, ByteArray.size_extract, tnT_size]) fun j hj => ?_
      rw [ByteArray.size_extract, tnT_size] at hj
      rw [bn_extract _ 0 n j (by rw [tnT_size]; omega) (by omega), bn_extract _ 0 n j (by omega) (by omega), tnT_bn hd _ (by omega)]
      unfold tnF
      rw [if_neg (by omega)]
    rw [e, ← h1] at h2
    have this : bn ((tnT u k d).extract n u.size) (k - n) = bn (u.extract n u.size) (k - n) := by rw [h2]
    rw [bn_extract _ n u.size (k - n) (by rw [tnT_size]; omega) (by omega), bn_extract _ n u.size (k - n) (by omega) (by omega), show n + (k - n) = k by omega, tnT_bn hd _ hk] at this
    unfold tnF at this
    rw [if_pos rfl] at this
    have h3 := congrArg (fun x => bn u k ^^^ x) this
    simp only [Nat.xor_self, ← Nat.xor_assoc, Nat.zero_xor] at h3
    exact h0 h3
end Go.Proofs.YtefmmopkikpnhaaGreatDoor

