/- Edges of rules as lists, in the specification, as contracts. The conditions stand at each theorem. -/
import Derived.Test.YtdljoopioglkiaaWinG
import Derived.Test.YtdljoopioglkiaaGrdM
import Derived.Test.YtdljoopioglkiaaRulF
namespace Go.Proofs.Ytdljoopioglkiaa
open Go.RowKit Go.LatT Go.BlockM Go.OpnT Go.WinMath
set_option linter.unusedVariables false
set_option linter.unusedSimpArgs false
set_option maxHeartbeats 2000000 in
set_option maxRecDepth 100000 in
theorem l3Num_there (n : Int) (bb off cap : Nat) (L : List Int) (w : World) (hcap : L.length ≤ cap) (hcm : cap ≤ maxLen) (hlt : bb < w.heap.size) (hc : ∀ i, i < L.length → w.cell? ⟨bb, off + i, none⟩ = some (.int .i64 (L.getD i 0))) (hl : L.length ≤ 100) (hp : L.Pairwise (· < ·)) (hn : n ∈ L) :
    Calls Try.prog 46 #[.slice (some ⟨bb, off, none⟩) L.length cap, .int .i64 n] w fun e w' => e = .returned (.slice (some ⟨bb, off, none⟩) L.length cap) ∧ w' = w := by
  obtain ⟨K, hK, hKn⟩ := mem_get.1 hn
  have HC := hid_in hc; have HN := hid_in hKn
  have HP : Hid (∀ i, i < K → L.getD i 0 < n) := by
    intro i hi
    have := (List.pairwise_iff_getElem.1 hp) i K (by omega) hK hi
    rw [← hKn]
    simpa [hK, show i < L.length by omega] using this
  clear hc hn hKn hp
  go_enter Try.func46, Try.ntmps46
  go_wp2_with fail
  go_loopw [5] (fun u wr => ∃ k : Nat, k ≤ K ∧ u = .int .i64 (k : Int) ∧ wr = w) (fun u _ => K - (intOf u).toNat)
  case atStart => exact ⟨0, Nat.zero_le _, rfl, rfl⟩
  case round =>
    obtain ⟨k, hk, rfl, rfl⟩ := hrel
    have hd : (k : Int) < (L.length : Int) := by omega
    have g0 := HC.out k (by omega)
    by_cases e : k = K
    · subst e
      rw [HN.out] at g0
      go_wp2_with fail
      go_ret
      exact ⟨rfl, rfl⟩
    · have hs := HP.out k (by omega)
      generalize L.getD k 0 = y at g0 hs
      go_wp2_with fail
      exact ⟨⟨k + 1, by omega, by simp, trivial⟩, by simp [intOf]; omega⟩
/-- A list that is not empty lies somewhere. -/
theorem IL.some {w : World} {v : Value} {L : List Int} (h : IL w v L) (hn : L ≠ []) : ∃ bb off cap, v = .slice (some ⟨bb, off, none⟩) L.length cap ∧ L.length ≤ cap ∧ bb < w.heap.size ∧ ∀ i, i < L.length → w.cell? ⟨bb, off + i, none⟩ = some (.int .i64 (L.getD i 0)) := by
  obtain ⟨a, cap, rfl, hc, h⟩ := h
  rcases h with ⟨rfl, rfl⟩ | ⟨bb, off, rfl, h1, h2⟩
  · exact absurd (List.length_eq_zero_iff.1 (by omega)) hn
  · exact ⟨bb, off, cap, rfl, hc, h1, h2⟩
/-- A list whose room is not too great, in a block from B on. -/
def ILm (B : Nat) (w : World) (v : Value) (L : List Int) : Prop := ∃ bb off cap, v = .slice (some ⟨bb, off, none⟩) L.length cap ∧ L.length ≤ cap ∧ cap ≤ maxLen ∧ B ≤ bb ∧ bb < w.heap.size ∧ ∀ i, i < L.length → w.cell? ⟨bb, off + i, none⟩ = some (.int .i64 (L.getD i 0))
theorem ILm.later {B : Nat} {w w' : World} {v : Value} {L : List Int} (h : ILm B w v L) (hb : Below w.heap.size w w') : ILm B w' v L := by
  obtain ⟨bb, off, cap, e, h1, h2, h5, h3, h4⟩ := h
  exact ⟨bb, off, cap, e, h1, h2, h5, Nat.lt_of_lt_of_le h3 hb.size, fun i hi => by rw [(bcell hb).1 _ _ h3]; exact h4 i hi⟩
theorem ILm.il {B : Nat} {w : World} {v : Value} {L : List Int} (h : ILm B w v L) : IL w v L := by
  obtain ⟨bb, off, cap, e, h1, h2, _, h3, h4⟩ := h
  exact ⟨_, cap, e, h1, .inr ⟨bb, off, rfl, h3, h4⟩⟩
theorem ILm.of_owns {B : Nat} {w : World} {base : Nat} {v : Value} {n : Nat} {L : List Int} (h : w.ownsRow base 3 1 v n (i64s L)) (hn : n = L.length) (h0 : L ≠ []) (hB : B ≤ base) : ILm B w v L := by
  have hI := IL.of_owns h hn
  obtain ⟨bb, off, cap, e, h1, h2, h3⟩ := hI.some h0
  obtain ⟨_, h4⟩ := h
  rcases h4 with ⟨rfl, _⟩ | ⟨g, cap', cur, e2, e3, _, _, h5, _⟩
  · simp at e
  · rw [e2] at e
    simp only [Value.slice.injEq, Option.some.injEq, Addr.mk.injEq] at e
    exact ⟨bb, off, cap, by rw [e2, e.1.1, e.1.2.1, e.2.1, e.2.2], h1, by rw [← e.2.2]; exact h5, by rw [← e.1.1]; omega, h2, h3⟩
theorem l3NumM (B : Nat) (n : Int) (v : Value) (L : List Int) (w : World) (hB : B ≤ w.heap.size) (hL : ILm B w v L) (hl : L.length ≤ 100) (hp : L.Pairwise (· < ·)) :
    Calls Try.prog 46 #[v, .int .i64 n] w fun e w' => ∃ v', e = .returned v' ∧ ILm B w' v' (ins n L) ∧ Below w.heap.size w w' := by
  obtain ⟨bb, off, cap, rfl, h1, h2, h5, h3, h4⟩ := hL
  by_cases hn : n ∈ L
  · refine (l3Num_there n bb off cap L w h1 h2 h3 h4 hl hp hn).mono ?_
    rintro e w' ⟨rfl, rfl⟩
    exact ⟨_, rfl, by rw [ins_mem hp hn]; exact ⟨bb, off, cap, rfl, h1, h2, h5, h3, h4⟩, Below.refl _ _⟩
  · refine (l3Num_any n bb off cap L w h1 h2 h3 h4 hl hn).mono ?_
    rintro e w' ⟨v', rfl, ho, hb⟩
    have hne : ins n L ≠ [] := fun e => by have := (mem_ins n n L).2 (.inl rfl); rw [e] at this; cases this
    have hlen : L.length + 1 = (ins n L).length := by
      have := ho.1
      simpa [i64s] using this.symm
    exact ⟨v', rfl, ILm.of_owns ho hlen hne hB, hb⟩
theorem ILm.new {B : Nat} (w : World) (x : Int) (hB : B ≤ w.heap.size) (t : TypeId) : ILm B (w.alloc (.cells #[.int .i64 x] t)) (.slice (some ⟨w.heap.size, 0, none⟩) 1 1) [x] :=
  ⟨w.heap.size, 0, 1, rfl, by simp, by unfold maxLen; omega, hB, by simp, fun i hi => by
    obtain rfl : i = 0 := by simpa using hi
    go_simp⟩
end Go.Proofs.Ytdljoopioglkiaa
