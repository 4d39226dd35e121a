/- What chained blocks are, without Go, and what is read of a list of blocks. The conditions stand at each theorem. -/
import Derived.Test.YtdbobeojbdcmdaaChnB
namespace Go.Proofs.Ytdbobeojbdcmdaa
open Go.RowKit Go.LatT Go.BlockM Go.PlainAid Go.OpnT Go.ApdG Go.BytM Go.AesM Go.RowQ Go.RegH
set_option linter.unusedVariables false
set_option linter.unusedSimpArgs false
/-- Blocks chained. -/
def cp (K : Nat → Nat → Nat) (f : Nat → Nat) (T : Nat → Nat → Nat) : Nat → Nat → Nat
  | 0 => f
  | k + 1 => enc K (fun j => T k j ^^^ cp K f T k j) 10
/-- Blocks turned back out of a chain. -/
def cd (K : Nat → Nat → Nat) (f : Nat → Nat) (T : Nat → Nat → Nat) (k j : Nat) : Nat := (dec K (T k) 10 j ^^^ K 0 j) ^^^ (if k = 0 then f j else T (k - 1) j)
theorem cp_by {K : Nat → Nat → Nat} {f : Nat → Nat} {T : Nat → Nat → Nat} (hK : ∀ i, i < 11 → By 16 (K i)) (hf : By 16 f) (hT : ∀ k, By 16 (T k)) : ∀ k, By 16 (cp K f T k)
  | 0 => hf
  | k + 1 => enc_by hK (xor_by (hT k) (cp_by hK hf hT k)) 10 (by omega)
theorem cd_by {K : Nat → Nat → Nat} {f : Nat → Nat} {T : Nat → Nat → Nat} (hK : ∀ i, i < 11 → By 16 (K i)) (hf : By 16 f) (hT : ∀ k, By 16 (T k)) (k : Nat) : By 16 (cd K f T k) := by
  intro j hj
  unfold cd
  refine xor_lt (xor_lt (dec_by hK (hT k) 10 j hj) (hK 0 (by omega) j hj)) ?_
  split
  · exact hf j hj
  · exact hT _ j hj
theorem GL.any {W : World} {B n : Nat} {v : Value} {K : Nat → Nat → Nat} (h : GL W B v n K) : ∃ a c, v = .slice a n c := by
  obtain ⟨h1, h2⟩ := h
  rcases h2 with ⟨rfl, h0⟩ | ⟨g, cap, cur, rfl, _⟩
  · subst h0; exact ⟨_, _, rfl⟩
  · exact ⟨_, _, rfl⟩
theorem GL.there {W : World} {B n g c : Nat} {K : Nat → Nat → Nat} (h : GL W B (.slice (some ⟨g, 0, none⟩) n c) n K) (k : Nat) (hk : k < n) : W.there g (k * 16) 16 := by
  obtain ⟨g', c', cur, hu, _, _, R, _, hz⟩ := h.row (by omega)
  have hu2 : g = g' ∧ c = c' := by simpa using hu
  obtain ⟨rfl, rfl⟩ := hu2
  exact fun j hj => ⟨by rw [R.cell k hk j hj]; rfl, hz _⟩
end Go.Proofs.Ytdbobeojbdcmdaa
