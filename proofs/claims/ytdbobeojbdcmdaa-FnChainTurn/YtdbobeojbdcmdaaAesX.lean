/- The keys of AES as a list of words, without Go. The conditions stand at each theorem. -/
import Derived.Test.YtdbobeojbdcmdaaAesW
namespace Go.Proofs.Ytdbobeojbdcmdaa
open Go.RowKit Go.LatT Go.BlockM Go.PlainAid Go.OpnT Go.ApdG Go.BytM Go.AesM
set_option linter.unusedVariables false
set_option linter.unusedSimpArgs false
/-- What goes into the first byte of a round. -/
def rc : Nat → Nat
  | 0 => 1
  | n + 1 => xt (rc n)
theorem rc_lt : ∀ n, rc n < 256
  | 0 => by decide
  | n + 1 => xt_lt _ (rc_lt n)
/-- The keys of the rounds. -/
def KS (f : Nat → Nat) : Nat → Nat → Nat
  | 0 => f
  | n + 1 => nk (KS f n) (rc n)
theorem KS_by {f : Nat → Nat} (hf : By 16 f) : ∀ n, By 16 (KS f n)
  | 0 => hf
  | n + 1 => fun i hi => nk_lt (KS_by hf n) (rc_lt n) i hi
/-- The word that is put to the one four words back. -/
def wd (f : Nat → Nat) (m j : Nat) : Nat := if m % 4 = 0 then w0 (KS f (m / 4 - 1)) (rc (m / 4 - 1)) j else flatK (KS f) (4 * m - 4 + j)
theorem key_step (f : Nat → Nat) (m i : Nat) (h4 : 4 ≤ m) (h44 : m < 44) (hi : i < 4) : flatK (KS f) (4 * m + i) = flatK (KS f) (4 * m - 16 + i) ^^^ wd f m i := by
  obtain ⟨p, hp⟩ : ∃ p, m / 4 = p + 1 := ⟨m / 4 - 1, by omega⟩
  obtain ⟨c, hc⟩ : ∃ c, m % 4 = c := ⟨_, rfl⟩
  have e1 : 4 * m + i = 16 * (p + 1) + (4 * c + i) := by omega
  have e2 : 4 * m - 16 + i = 16 * p + (4 * c + i) := by omega
  rw [e1, e2, flatK_at _ _ _ (by omega), flatK_at _ _ _ (by omega)]
  show nkc (KS f p) (rc p) ((4 * c + i) % 4) ((4 * c + i) / 4) = _
  rw [show (4 * c + i) % 4 = i by omega, show (4 * c + i) / 4 = c by omega]
  unfold wd
  rw [hc, show m / 4 - 1 = p by omega]
  by_cases h0 : c = 0
  · subst h0
    rw [if_pos rfl, nkc, Nat.xor_comm, show 4 * 0 + i = i by omega]
  · obtain ⟨d, rfl⟩ : ∃ d, c = d + 1 := ⟨c - 1, by omega⟩
    have e3 : 4 * m - 4 + i = 16 * (p + 1) + (4 * d + i) := by omega
    rw [if_neg h0, e3, flatK_at _ _ _ (by omega), nkc, Nat.xor_comm]
    congr 1
    show _ = nkc (KS f p) (rc p) ((4 * d + i) % 4) ((4 * d + i) / 4)
    rw [show (4 * d + i) % 4 = i by omega, show (4 * d + i) / 4 = d by omega]
theorem wd_lt {f : Nat → Nat} (hf : By 16 f) (m j : Nat) (hj : j < 4) : wd f m j < 256 := by
  unfold wd
  split
  · exact w0_lt (KS_by hf _) (rc_lt _) j hj
  · exact KS_by hf _ _ (Nat.mod_lt _ (by omega))
theorem flatKS_lt {f : Nat → Nat} (hf : By 16 f) (x : Nat) : flatK (KS f) x < 256 := KS_by hf _ _ (Nat.mod_lt _ (by omega))
/-- What lies where while a word is put behind. -/
structure WS (w W : World) (o : Value) (n : Nat) (f : Nat → Nat) (gw : Nat) (h : Nat → Nat) : Prop where
  ls : LS w W o n f
  blk : W.heap[gw]? = some (.cells (nC 4 h).toArray 3 (0, 0))
theorem WS.row {w W : World} {o : Value} {n gw : Nat} {f h : Nat → Nat} (s : WS w W o n f gw h) : NR W gw 4 h :=
  ⟨(Array.getElem?_eq_some_iff.1 s.blk).1, fun i hi => by rw [cell_of_row W gw i _ _ _ s.blk]; simpa using nC_get 4 h i hi⟩
theorem WS.ne {w W : World} {g c n gw : Nat} {f h : Nat → Nat} (s : WS w W (.slice (some ⟨g, 0, none⟩) n c) n f gw h) (hn : 4 < n) : g ≠ gw := by
  intro e
  subst e
  obtain ⟨_, h2⟩ := s.ls.own
  rcases h2 with ⟨h2, _⟩ | ⟨g', cap, cur, h', hb, hg, hnc, hcm, hcs, htake⟩
  · simp at h2
  · simp only [Value.slice.injEq, Option.some.injEq, Addr.mk.injEq, and_true, true_and] at h'
    obtain ⟨rfl, rfl⟩ := h'
    rw [s.blk] at hg
    have := congrArg (fun o => match o with | some (Obj.cells cs _ _) => cs.size | _ => 0) hg
    simp [nC_len] at this
    omega
theorem WS.nextD {w W W' : World} {g c : Nat} {o' : Value} {n b gw : Nat} {f h : Nat → Nat} {x : Obj} (s : WS w W (.slice (some ⟨g, 0, none⟩) n c) n f gw h) (hn : 4 < n) (O : W'.ownsRow w.heap.size 3 1 o' (n + 1) (nC n f ++ [.int .i64 (b : Int)]))
    (G : (W.drew.alloc x).grownBy W' (Value.ownBlock (.slice (some ⟨g, 0, none⟩) n c))) (e : b = f n) : WS w W' o' (n + 1) f gw h := by
  refine ⟨s.ls.nextD O G e, ?_⟩
  have hne := s.ne hn
  have hlt := s.row.lt
  obtain ⟨_, _, _, _, h5⟩ := G
  rw [h5 gw (by simp; omega) (by simp [Value.ownBlock]; exact Ne.symm hne)]
  show (W.drew.heap.push x)[gw]? = _
  rw [Array.getElem?_push, if_neg (by show ¬ gw = W.heap.size; omega)]
  exact s.blk
end Go.Proofs.Ytdbobeojbdcmdaa
