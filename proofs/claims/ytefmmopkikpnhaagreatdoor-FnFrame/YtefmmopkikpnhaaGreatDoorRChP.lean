/- What is proved: the contracts of ChnP, one behind the other. The conditions stand at each theorem. -/
import Derived.Test.YtefmmopkikpnhaaGreatDoorRAeF
import Derived.Test.YtefmmopkikpnhaaGreatDoorRFrE
import Derived.Test.YtefmmopkikpnhaaGreatDoorRDrw
namespace Go.Proofs.YtefmmopkikpnhaaGreatDoor
open Go.RowKit Go.LatT Go.BlockM Go.PlainAid Go.OpnT Go.ApdG Go.BytM Go.AesM Go.RegE
set_option linter.unusedVariables false
set_option linter.unusedSimpArgs false
theorem hKS (s : ByteArray) : ∀ i, i < 11 → By 16 (KS (bn s) i) := fun i _ => KS_by (fun i _ => bn_lt s i) i
theorem blk_txt {n : Nat} {F : Nat → Nat → Nat} (hF : ∀ k, k < n → By 16 (F k)) (k : Nat) (hk : k < n) : ∀ j, j < 16 → blk (txt (16 * n) (flatK F)) k j = F k j := by
  intro j hj
  unfold blk
  rw [txt_get _ _ _ (by omega), flatK_at F k j hj]
  exact Nat.mod_eq_of_lt (hF k hk j hj)
theorem txt_blk {u : ByteArray} {n : Nat} (hu : u.size = 16 * n) {F : Nat → Nat → Nat} (h : ∀ k, k < n → ∀ j, j < 16 → F k j = blk u k j) : txt (16 * n) (flatK F) = u := by
  refine (txt_eq hu fun i hi => ?_).symm
  unfold flatK
  rw [h (i / 16) (by omega) (i % 16) (Nat.mod_lt _ (by omega))]
  unfold blk
  congr 1; omega
theorem Chn.of {s t u x : ByteArray} (h : Chn s t u) (hx : x.size = u.size) : Chn s t x := ⟨h.1, h.2.1, by rw [hx]; exact h.2.2.1, by rw [hx]; exact h.2.2.2⟩
theorem cpT_eq {s t u : ByteArray} {n : Nat} (h : Chn s t u) (hn : u.size = 16 * n) : cpT s t u = txt (16 * n) (flatK fun i => cp (KS (bn s)) (bn t) (blk u) (i + 1)) := by
  unfold cpT; rw [if_pos h, show u.size / 16 = n by omega]
theorem cdT_eq {s t u : ByteArray} {n : Nat} (h : Chn s t u) (hn : u.size = 16 * n) : cdT s t u = txt (16 * n) (flatK (cd (KS (bn s)) (bn t) (blk u))) := by
  unfold cdT; rw [if_pos h, show u.size / 16 = n by omega]
theorem cp_by' (s t u : ByteArray) (k : Nat) : By 16 (cp (KS (bn s)) (bn t) (blk u) k) := cp_by (hKS s) (fun i _ => bn_lt t i) (blk_by u) k
theorem cpT_size {s t u : ByteArray} (h : Chn s t u) : (cpT s t u).size = u.size := by
  obtain ⟨n, hn⟩ : ∃ n, u.size = 16 * n := ⟨u.size / 16, by have := h.2.2.1; omega⟩
  rw [cpT_eq h hn, txt_size, hn]
theorem cd_cp {s t u : ByteArray} (h : Chn s t u) : cdT s t (cpT s t u) = u := by
  obtain ⟨n, hn⟩ : ∃ n, u.size = 16 * n := ⟨u.size / 16, by have := h.2.2.1; omega⟩
  have hx := cpT_size h
  have hb : ∀ k, k < n → ∀ j, j < 16 → blk (cpT s t u) k j = cp (KS (bn s)) (bn t) (blk u) (k + 1) j := fun k hk => by
    rw [cpT_eq h hn]; exact blk_txt (F := fun i => cp (KS (bn s)) (bn t) (blk u) (i + 1)) (fun k _ => cp_by' s t u (k + 1)) k hk
  rw [cdT_eq (h.of hx) (by rw [hx, hn])]
  refine txt_blk hn fun k hk j hj => ?_
  unfold cd
  rw [dec_congr (hb k hk) 10 j hj]
  have hXB := xor_by (blk_by u k) (cp_by' s t u k)
  have e1 : dec (KS (bn s)) (cp (KS (bn s)) (bn t) (blk u) (k + 1)) 10 j ^^^ KS (bn s) 0 j = blk u k j ^^^ cp (KS (bn s)) (bn t) (blk u) k j := dec_enc (hKS s) hXB j hj
  rw [e1]
  have e2 : (if k = 0 then bn t j else blk (cpT s t u) (k - 1) j) = cp (KS (bn s)) (bn t) (blk u) k j := by
    by_cases h0 : k = 0
    · subst h0; rw [if_pos rfl]; rfl
    · rw [if_neg h0, hb (k - 1) (by omega) j hj, show k - 1 + 1 = k by omega]
  rw [e2, Nat.xor_assoc, Nat.xor_self, Nat.xor_zero]
end Go.Proofs.YtefmmopkikpnhaaGreatDoor

