/- Sixteen bytes that the whole world knows, turned; and the keys that the standard tells: reckoned, without Go. No conditions. -/
import Derived.Test.YtdbobeojbdcmdaaPutB
namespace Go.Proofs.Ytdbobeojbdcmdaa
open Go.RowKit Go.LatT Go.BlockM Go.PlainAid Go.OpnT Go.ApdG Go.BytM Go.AesM
set_option linter.unusedVariables false
set_option linter.unusedSimpArgs false
/-- A list as a function, and a function as a list. -/
def fnL (l : List Nat) (j : Nat) : Nat := l.getD j 0
def ls (f : Nat → Nat) : List Nat := (List.range 16).map f
theorem fn_ls (f : Nat → Nat) (j : Nat) (hj : j < 16) : fnL (ls f) j = f j := by
  unfold fnL ls
  rw [List.getD_eq_getElem?_getD, List.getElem?_map, List.getElem?_range hj]
  rfl
theorem w0_congr {f g : Nat → Nat} (h : ∀ j, j < 16 → f j = g j) (r j : Nat) : w0 f r j = w0 g r j := by unfold w0; rw [h _ (by omega)]
theorem nkc_congr {f g : Nat → Nat} (h : ∀ j, j < 16 → f j = g j) (r j : Nat) (hj : j < 4) : ∀ m, m < 4 → nkc f r j m = nkc g r j m
  | 0, _ => by rw [nkc, nkc, w0_congr h, h j (by omega)]
  | m + 1, hm => by rw [nkc, nkc, nkc_congr h r j hj m (by omega), h _ (by omega)]
theorem nk_congr {f g : Nat → Nat} (h : ∀ j, j < 16 → f j = g j) (r j : Nat) (hj : j < 16) : nk f r j = nk g r j := nkc_congr h r _ (by omega) _ (by omega)
/-- The keys, round by round, as lists. -/
def keyL (k : List Nat) : Nat → List Nat
  | 0 => k
  | r + 1 => ls (nk (fnL (keyL k r)) (rc r))
theorem keyL_ok (k : List Nat) : ∀ r j, j < 16 → fnL (keyL k r) j = KS (fnL k) r j
  | 0, _, _ => rfl
  | r + 1, j, hj => by
    rw [keyL, fn_ls _ j hj]
    exact nk_congr (keyL_ok k r) (rc r) j hj
/-- A round, as a list. -/
def stpL (kl : List Nat) (r : Nat) (l : List Nat) : List Nat := ls (stp (fun _ => fnL kl) r (fnL l))
def encL (k t : List Nat) : Nat → List Nat
  | 0 => ls fun i => fnL t i ^^^ fnL k i
  | r + 1 => stpL (keyL k (r + 1)) (r + 1) (encL k t r)
theorem stp_key {K L : Nat → Nat → Nat} {r : Nat} {s : Nat → Nat} (h : ∀ i, i < 16 → K r i = L r i) : ∀ i, i < 16 → stp K r s i = stp L r s i := by
  intro i hi; unfold stp; rw [h i hi]
theorem encL_ok (k t : List Nat) : ∀ r j, j < 16 → fnL (encL k t r) j = enc (KS (fnL k)) (fnL t) r j
  | 0, j, hj => by rw [encL, fn_ls _ j hj]; rfl
  | r + 1, j, hj => by
    rw [encL, stpL, fn_ls _ j hj, stp_key (L := KS (fnL k)) (fun i hi => keyL_ok k (r + 1) i hi) j hj]
    exact stp_congr (encL_ok k t r) j hj
theorem known_keys : keyL [43, 126, 21, 22, 40, 174, 210, 166, 171, 247, 21, 136, 9, 207, 79, 60] 10 = [208, 20, 249, 168, 201, 238, 37, 137, 225, 63, 12, 200, 182, 99, 12, 166] := by decide +kernel
theorem known_put : encL [0, 1, 2, 3, 4, 5, 6, 7, 8, 9, 10, 11, 12, 13, 14, 15] [0, 17, 34, 51, 68, 85, 102, 119, 136, 153, 170, 187, 204, 221, 238, 255] 10 = [105, 196, 224, 216, 106, 123, 4, 48, 216, 205, 183, 128, 112, 180, 197, 90] := by decide +kernel
end Go.Proofs.Ytdbobeojbdcmdaa
