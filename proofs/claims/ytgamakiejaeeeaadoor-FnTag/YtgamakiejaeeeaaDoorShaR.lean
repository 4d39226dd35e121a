/- Sums as lists of numbers, and the values that the standards tell, without Go. The conditions stand at each theorem. -/
import Derived.Test.YtgamakiejaeeeaaDoorShaQ
namespace Go.Proofs.YtgamakiejaeeeaaDoor
open Go.RowKit Go.LatT Go.BlockM Go.PlainAid Go.OpnT Go.ApdG Go.BytM Go.AesM Go.RowQ
set_option linter.unusedVariables false
set_option linter.unusedSimpArgs false
/-- The next word, of the words so far, the last first. -/
def wnx (l : List Nat) : Nat := (l.getD 15 0 + (rs (l.getD 14 0) [7, 18] ^^^ (l.getD 14 0 / 8)) + l.getD 6 0 + (rs (l.getD 1 0) [17, 19] ^^^ (l.getD 1 0 / 1024))) % 4294967296
def wit : Nat → List Nat → List Nat
  | 0, l => l
  | k + 1, l => wit k (wnx l :: l)
/-- The words of a block, the last first. -/
def wrv (b : Nat → Nat) (n : Nat) : List Nat := (List.range n).reverse.map (wds b)
theorem wrv_succ (b : Nat → Nat) (n : Nat) : wrv b (n + 1) = wds b n :: wrv b n := by simp [wrv, List.range_succ]
theorem wrv_get (b : Nat → Nat) (n j : Nat) (h : j < n) : (wrv b n).getD j 0 = wds b (n - 1 - j) := by
  unfold wrv
  rw [List.getD_eq_getElem?_getD, List.getElem?_map, List.getElem?_reverse (by simpa using h)]
  simp [h]
  rw [List.getElem?_range (by omega)]
  rfl
theorem wnx_eq (b : Nat → Nat) (n : Nat) (h : 16 ≤ n) : wnx (wrv b n) = wds b n := by
  unfold wnx
  rw [wrv_get b n 15 (by omega), wrv_get b n 14 (by omega), wrv_get b n 6 (by omega), wrv_get b n 1 (by omega), wds_high b n h]
  rw [show n - 1 - 15 = n - 16 by omega, show n - 1 - 14 = n - 15 by omega, show n - 1 - 6 = n - 7 by omega, show n - 1 - 1 = n - 2 by omega]
theorem wit_eq (b : Nat → Nat) : ∀ k n, 16 ≤ n → wit k (wrv b n) = wrv b (n + k)
  | 0, n, _ => rfl
  | k + 1, n, h => by rw [wit, wnx_eq b n h, ← wrv_succ, wit_eq b k (n + 1) (by omega), show n + 1 + k = n + (k + 1) by omega]
/-- Words of bytes. -/
def w4 : List Nat → List Nat
  | a :: b :: c :: d :: l => (((a * 256 + b) * 256 + c) * 256 + d) :: w4 l
  | _ => []
def toL (f : Nat → Nat) (n : Nat) : List Nat := (List.range n).map f
theorem toL_get (f : Nat → Nat) (n i : Nat) (h : i < n) : (toL f n).getD i 0 = f i := by
  unfold toL
  rw [List.getD_eq_getElem?_getD, List.getElem?_map, List.getElem?_range h]
  rfl
/-- One step on the eight words, as a list. -/
def stl (k w : Nat) : List Nat → List Nat
  | [a, b, c, d, e, f, g, h] =>
    let t := h + rs e [6, 11, 25] + ((e &&& f) ^^^ ((4294967295 - e) &&& g)) + k + w
    let u := rs a [2, 13, 22] + ((a &&& b) ^^^ (a &&& c) ^^^ (b &&& c))
    [(t + u) % 4294967296, a, b, c, (d + t) % 4294967296, e, f, g]
  | _ => []
theorem stl_eq (k w : Nat) (s : Nat → Nat) : stl k w (toL s 8) = toL (shs k w s) 8 := by
  simp [stl, toL, List.range, List.range.loop, shs]
def stf : List Nat → List Nat → List Nat → List Nat
  | k :: ks, w :: ws, s => stf ks ws (stl k w s)
  | _, _, s => s
theorem stf_eq (b s : Nat → Nat) : ∀ (m i : Nat), stf ((List.range' i m).map kst) ((List.range' i m).map (wds b)) (toL (sh b s i) 8) = toL (sh b s (i + m)) 8
  | 0, i => rfl
  | m + 1, i => by
    rw [List.range'_succ, List.map_cons, List.map_cons, stf, stl_eq]
    have := stf_eq b s m (i + 1)
    rw [show i + (m + 1) = i + 1 + m by omega, ← this]
    rfl
/-- A block put into a sum, as lists. -/
def blL (b s : List Nat) : List Nat := (s.zip (stf KL (wit 48 (w4 b).reverse).reverse s)).map fun x => (x.1 + x.2) % 4294967296
theorem w4_eq (b : Nat → Nat) : w4 (toL b 64) = (List.range 16).map (wds b) := by
  have h : ∀ n, n < 16 → wds b n = ((b (4 * n) * 256 + b (4 * n + 1)) * 256 + b (4 * n + 2)) * 256 + b (4 * n + 3) := fun n hn => wds_low b n hn
  simp [toL, w4, List.range, List.range.loop, h]
theorem blL_eq (b s : Nat → Nat) : blL (toL b 64) (toL s 8) = toL (shm b s) 8 := by
  have h1 : (wit 48 (w4 (toL b 64)).reverse).reverse = (List.range' 0 64).map (wds b) := by
    rw [w4_eq, ← List.map_reverse]
    have := wit_eq b 48 16 (Nat.le_refl _)
    unfold wrv at this
    rw [this, ← List.map_reverse, List.reverse_reverse, List.range_eq_range']
  have h2 : KL = (List.range' 0 64).map kst := by decide +kernel
  unfold blL
  rw [h1, h2, show toL s 8 = toL (sh b s 0) 8 from rfl, stf_eq b s 64 0]
  simp [toL, List.range, List.range.loop, shm, sh]
def blF : List (List Nat) → List Nat → List Nat
  | [], s => s
  | b :: l, s => blF l (blL b s)
theorem stt_next (f : Nat → Nat) (k : Nat) : toL (stt f (k + 1)) 8 = blL (toL (fun i => f (64 * k + i)) 64) (toL (stt f k) 8) := by
  rw [blL_eq]
  rfl
def iniK : List Nat := [1779033703, 3144134277, 1013904242, 2773480762, 1359893119, 2600822924, 528734635, 1541459225]
theorem stt_zero (f : Nat → Nat) : toL (stt f 0) 8 = iniK := rfl
/-- Words as bytes. -/
def w8 : List Nat → List UInt8
  | [] => []
  | a :: l => UInt8.ofNat (a / 16777216) :: UInt8.ofNat (a / 65536) :: UInt8.ofNat (a / 256) :: UInt8.ofNat a :: w8 l
theorem wtx_list (s : Nat → Nat) : wtx s 8 = w8 (toL s 8) := by
  have h : ∀ i, wtx s (i + 1) = wtx s i ++ be 4 (s i) := wtx_succ s
  rw [h 7, h 6, h 5, h 4, h 3, h 2, h 1, h 0]
  simp [wtx, w8, toL, List.range, List.range.loop, be_cons, be, Nat.div_div_eq_div_mul]
theorem sumT_one (f : Nat → Nat) (n : Nat) (hN : padN n = 64) : sumT f n = ⟨(w8 (blL (toL (pad f n) 64) iniK)).toArray⟩ := by
  have e : sumT f n = ⟨(wtx (stt (pad f n) (padN n / 64)) 8).toArray⟩ := rfl
  rw [e, wtx_list, hN]
  show (⟨(w8 (toL (stt (pad f n) (0 + 1)) 8)).toArray⟩ : ByteArray) = _
  rw [stt_next, stt_zero]
  simp only [Nat.mul_zero, Nat.zero_add]
theorem sumT_two (f : Nat → Nat) (n : Nat) (hN : padN n = 128) : sumT f n = ⟨(w8 (blL (toL (fun i => pad f n (64 + i)) 64) (blL (toL (pad f n) 64) iniK))).toArray⟩ := by
  have e : sumT f n = ⟨(wtx (stt (pad f n) (padN n / 64)) 8).toArray⟩ := rfl
  rw [e, wtx_list, hN]
  show (⟨(w8 (toL (stt (pad f n) (0 + 1 + 1)) 8)).toArray⟩ : ByteArray) = _
  rw [stt_next, stt_next, stt_zero]
  simp only [Nat.mul_zero, Nat.zero_add, Nat.mul_one]
def abcB : ByteArray := ⟨#[97, 98, 99]⟩
theorem abc_sum : sumT (bn abcB) 3 = ⟨#[186, 120, 22, 191, 143, 1, 207, 234, 65, 65, 64, 222, 93, 174, 34, 35, 176, 3, 97, 163, 150, 23, 122, 156, 180, 16, 255, 97, 242, 0, 21, 173]⟩ := by
  rw [sumT_one _ _ rfl]
  have : toL (pad (bn abcB) 3) 64 = [97, 98, 99, 128, 0, 0, 0, 0, 0, 0, 0, 0, 0, 0, 0, 0, 0, 0, 0, 0, 0, 0, 0, 0, 0, 0, 0, 0, 0, 0, 0, 0, 0, 0, 0, 0, 0, 0, 0, 0, 0, 0, 0, 0, 0, 0, 0, 0, 0, 0, 0, 0, 0, 0, 0, 0, 0, 0, 0, 0, 0, 0, 0, 24] := by decide +kernel
  rw [this]
  congr 2
def hiK : ByteArray := ⟨#[11, 11, 11, 11, 11, 11, 11, 11, 11, 11, 11, 11, 11, 11, 11, 11, 11, 11, 11, 11]⟩
def hiT : ByteArray := ⟨#[72, 105, 32, 84, 104, 101, 114, 101]⟩
def hiI : ByteArray := ⟨#[146, 171, 77, 154, 31, 59, 97, 82, 188, 169, 221, 158, 105, 175, 67, 244, 206, 153, 228, 47, 212, 227, 15, 249, 114, 196, 128, 37, 185, 249, 207, 239]⟩
def hiO : ByteArray := ⟨#[176, 52, 76, 97, 216, 219, 56, 83, 92, 168, 175, 206, 175, 11, 241, 43, 136, 29, 194, 0, 201, 131, 61, 167, 38, 233, 55, 108, 46, 50, 207, 247]⟩
theorem hi_in : inT hiK hiT = hiI := by
  unfold inT
  rw [sumT_two _ _ rfl]
  have h1 : toL (pad (cat2 (kb hiK 54) hiT) (64 + hiT.size)) 64 = [61, 61, 61, 61, 61, 61, 61, 61, 61, 61, 61, 61, 61, 61, 61, 61, 61, 61, 61, 61, 54, 54, 54, 54, 54, 54, 54, 54, 54, 54, 54, 54, 54, 54, 54, 54, 54, 54, 54, 54, 54, 54, 54, 54, 54, 54, 54, 54, 54, 54, 54, 54, 54, 54, 54, 54, 54, 54, 54, 54, 54, 54, 54, 54] := by decide +kernel
  have h2 : toL (fun i => pad (cat2 (kb hiK 54) hiT) (64 + hiT.size) (64 + i)) 64 = [72, 105, 32, 84, 104, 101, 114, 101, 128, 0, 0, 0, 0, 0, 0, 0, 0, 0, 0, 0, 0, 0, 0, 0, 0, 0, 0, 0, 0, 0, 0, 0, 0, 0, 0, 0, 0, 0, 0, 0, 0, 0, 0, 0, 0, 0, 0, 0, 0, 0, 0, 0, 0, 0, 0, 0, 0, 0, 0, 0, 0, 0, 2, 64] := by decide +kernel
  rw [h1, h2]
  have h3 : w8 (blL [72, 105, 32, 84, 104, 101, 114, 101, 128, 0, 0, 0, 0, 0, 0, 0, 0, 0, 0, 0, 0, 0, 0, 0, 0, 0, 0, 0, 0, 0, 0, 0, 0, 0, 0, 0, 0, 0, 0, 0, 0, 0, 0, 0, 0, 0, 0, 0, 0, 0, 0, 0, 0, 0, 0, 0, 0, 0, 0, 0, 0, 0, 2, 64] (blL [61, 61, 61, 61, 61, 61, 61, 61, 61, 61, 61, 61, 61, 61, 61, 61, 61, 61, 61, 61, 54, 54, 54, 54, 54, 54, 54, 54, 54, 54, 54, 54, 54, 54, 54, 54, 54, 54, 54, 54, 54, 54, 54, 54, 54, 54, 54, 54, 54, 54, 54, 54, 54, 54, 54, 54, 54, 54, 54, 54, 54, 54, 54, 54] iniK)) = [146, 171, 77, 154, 31, 59, 97, 82, 188, 169, 221, 158, 105, 175, 67, 244, 206, 153, 228, 47, 212, 227, 15, 249, 114, 196, 128, 37, 185, 249, 207, 239] := by decide +kernel
  rw [h3]
  rfl
theorem hi_out : sumT (cat2 (kb hiK 92) hiI) (64 + 32) = hiO := by
  rw [sumT_two _ _ rfl]
  have h1 : toL (pad (cat2 (kb hiK 92) hiI) (64 + 32)) 64 = [87, 87, 87, 87, 87, 87, 87, 87, 87, 87, 87, 87, 87, 87, 87, 87, 87, 87, 87, 87, 92, 92, 92, 92, 92, 92, 92, 92, 92, 92, 92, 92, 92, 92, 92, 92, 92, 92, 92, 92, 92, 92, 92, 92, 92, 92, 92, 92, 92, 92, 92, 92, 92, 92, 92, 92, 92, 92, 92, 92, 92, 92, 92, 92] := by decide +kernel
  have h2 : toL (fun i => pad (cat2 (kb hiK 92) hiI) (64 + 32) (64 + i)) 64 = [146, 171, 77, 154, 31, 59, 97, 82, 188, 169, 221, 158, 105, 175, 67, 244, 206, 153, 228, 47, 212, 227, 15, 249, 114, 196, 128, 37, 185, 249, 207, 239, 128, 0, 0, 0, 0, 0, 0, 0, 0, 0, 0, 0, 0, 0, 0, 0, 0, 0, 0, 0, 0, 0, 0, 0, 0, 0, 0, 0, 0, 0, 3, 0] := by decide +kernel
  rw [h1, h2]
  have h3 : w8 (blL [146, 171, 77, 154, 31, 59, 97, 82, 188, 169, 221, 158, 105, 175, 67, 244, 206, 153, 228, 47, 212, 227, 15, 249, 114, 196, 128, 37, 185, 249, 207, 239, 128, 0, 0, 0, 0, 0, 0, 0, 0, 0, 0, 0, 0, 0, 0, 0, 0, 0, 0, 0, 0, 0, 0, 0, 0, 0, 0, 0, 0, 0, 3, 0] (blL [87, 87, 87, 87, 87, 87, 87, 87, 87, 87, 87, 87, 87, 87, 87, 87, 87, 87, 87, 87, 92, 92, 92, 92, 92, 92, 92, 92, 92, 92, 92, 92, 92, 92, 92, 92, 92, 92, 92, 92, 92, 92, 92, 92, 92, 92, 92, 92, 92, 92, 92, 92, 92, 92, 92, 92, 92, 92, 92, 92, 92, 92, 92, 92] iniK)) = [176, 52, 76, 97, 216, 219, 56, 83, 92, 168, 175, 206, 175, 11, 241, 43, 136, 29, 194, 0, 201, 131, 61, 167, 38, 233, 55, 108, 46, 50, 207, 247] := by decide +kernel
  rw [h3]
  rfl
def hiG : ByteArray := ⟨#[176, 52, 76, 97, 216, 219, 56, 83, 92, 168, 175, 206, 175, 11, 241, 43]⟩
theorem hi_tag : tgT hiK hiT = hiG := by
  unfold tgT
  rw [hi_in, hi_out]
  rfl
theorem abc_hex : hshT abcB = ⟨#[98, 97, 55, 56, 49, 54, 98, 102, 56, 102, 48, 49, 99, 102, 101, 97, 52, 49, 52, 49, 52, 48, 100, 101, 53, 100, 97, 101, 50, 50, 50, 51, 98, 48, 48, 51, 54, 49, 97, 51, 57, 54, 49, 55, 55, 97, 57, 99, 98, 52, 49, 48, 102, 102, 54, 49, 102, 50, 48, 48, 49, 53, 97, 100]⟩ := by
  unfold hshT
  rw [show abcB.size = 3 from rfl, abc_sum]
  decide +kernel
theorem hi_hex : (⟨(hexT hiG hiG.size).toArray⟩ : ByteArray) = ⟨#[98, 48, 51, 52, 52, 99, 54, 49, 100, 56, 100, 98, 51, 56, 53, 51, 53, 99, 97, 56, 97, 102, 99, 101, 97, 102, 48, 98, 102, 49, 50, 98]⟩ := by decide +kernel
end Go.Proofs.YtgamakiejaeeeaaDoor
