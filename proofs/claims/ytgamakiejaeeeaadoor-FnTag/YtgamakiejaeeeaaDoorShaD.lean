/- The sum of bytes, block by block, without Go. The conditions stand at each theorem. -/
import Derived.Test.YtgamakiejaeeeaaDoorShaC
namespace Go.Proofs.YtgamakiejaeeeaaDoor
open Go.RowKit Go.LatT Go.BlockM Go.PlainAid Go.OpnT Go.ApdG Go.BytM Go.AesM
set_option linter.unusedVariables false
set_option linter.unusedSimpArgs false
/-- The words behind k steps. -/
def sh (b s : Nat → Nat) : Nat → Nat → Nat
  | 0 => s
  | k + 1 => shs (kst k) (wds b k) (sh b s k)
theorem shs_lt {k w : Nat} {s : Nat → Nat} (hs : ∀ i, i < 8 → s i < 4294967296) : ∀ i, i < 8 → shs k w s i < 4294967296 := by
  intro i hi
  unfold shs
  by_cases h0 : i = 0
  · simp only [h0, if_true]; exact Nat.mod_lt _ (by decide)
  · by_cases h4 : i = 4
    · subst h4; simp only [if_neg h0, if_true]; exact Nat.mod_lt _ (by decide)
    · simp only [if_neg h0, if_neg h4]; exact hs _ (by omega)
theorem sh_lt {b s : Nat → Nat} (hs : ∀ i, i < 8 → s i < 4294967296) : ∀ k i, i < 8 → sh b s k i < 4294967296
  | 0 => hs
  | k + 1 => shs_lt (sh_lt hs k)
/-- The words behind a block. -/
def shm (b s : Nat → Nat) : Nat → Nat := fun i => (s i + sh b s 64 i) % 4294967296
theorem shm_lt (b s : Nat → Nat) (i : Nat) : shm b s i < 4294967296 := Nat.mod_lt _ (by decide)
theorem wds_congr {b c : Nat → Nat} (h : ∀ i, i < 64 → b i = c i) : ∀ n, wds b n = wds c n := by
  intro n
  induction n using Nat.strongRecOn with
  | ind n ih =>
    by_cases h16 : n < 16
    · rw [wds_low b n h16, wds_low c n h16, h _ (by omega), h _ (by omega), h _ (by omega), h _ (by omega)]
    · rw [wds_high b n (by omega), wds_high c n (by omega), ih _ (by omega), ih _ (by omega), ih _ (by omega), ih _ (by omega)]
theorem sh_congr {b c s t : Nat → Nat} (h : ∀ i, i < 64 → b i = c i) (hs : ∀ i, i < 8 → s i = t i) : ∀ k i, i < 8 → sh b s k i = sh c t k i
  | 0 => hs
  | k + 1 => by
    have ih := sh_congr h hs k
    intro i hi
    show shs _ _ _ i = shs _ _ _ i
    unfold shs
    rw [wds_congr h k]
    simp only [ih 0 (by omega), ih 1 (by omega), ih 2 (by omega), ih 3 (by omega), ih 4 (by omega), ih 5 (by omega), ih 6 (by omega), ih 7 (by omega)]
    split
    · rfl
    · split
      · rfl
      · exact ih _ (by omega)
theorem shm_congr {b c s t : Nat → Nat} (h : ∀ i, i < 64 → b i = c i) (hs : ∀ i, i < 8 → s i = t i) : ∀ i, i < 8 → shm b s i = shm c t i := by
  intro i hi
  unfold shm
  rw [hs i hi, sh_congr h hs 64 i hi]
/-- How a sum begins. -/
def ini : Nat → Nat := fun i => [1779033703, 3144134277, 1013904242, 2773480762, 1359893119, 2600822924, 528734635, 1541459225].getD i 0
/-- The words behind k blocks. -/
def stt (f : Nat → Nat) : Nat → Nat → Nat
  | 0 => ini
  | k + 1 => shm (fun i => f (64 * k + i)) (stt f k)
theorem ini_lt : ∀ i, i < 8 → ini i < 4294967296 := by decide +kernel
theorem stt_lt (f : Nat → Nat) : ∀ k i, i < 8 → stt f k i < 4294967296
  | 0 => ini_lt
  | k + 1 => fun i _ => shm_lt _ _ i
theorem stt_congr {f g : Nat → Nat} : ∀ k, (∀ i, i < 64 * k → f i = g i) → ∀ i, i < 8 → stt f k i = stt g k i
  | 0, _ => fun _ _ => rfl
  | k + 1, h => shm_congr (fun i hi => h _ (by omega)) (stt_congr k (fun i hi => h i (by omega)))
/-- How many bytes a text is filled to. -/
def padN (n : Nat) : Nat := 64 * ((n + 8) / 64 + 1)
/-- The bytes that a text is filled to. -/
def pad (f : Nat → Nat) (n : Nat) : Nat → Nat := fun i => if i < n then f i else if i = n then 128 else if i < padN n - 8 then 0 else (8 * n) / 256 ^ (padN n - 1 - i) % 256
theorem pad_lt {f : Nat → Nat} {n : Nat} (hf : ∀ i, i < n → f i < 256) (i : Nat) : pad f n i < 256 := by
  unfold pad
  split
  · exact hf i (by assumption)
  · split
    · decide
    · split
      · decide
      · exact Nat.mod_lt _ (by decide)
/-- The bytes of words, the highest first. -/
def wby (s : Nat → Nat) : Nat → Nat := fun i => s (i / 4) / 256 ^ (3 - i % 4) % 256
/-- The sum of bytes, as a text. -/
def sumT (f : Nat → Nat) (n : Nat) : ByteArray := ⟨((List.range 32).map fun i => UInt8.ofNat (wby (stt (pad f n) (padN n / 64)) i)).toArray⟩
end Go.Proofs.YtgamakiejaeeeaaDoor
