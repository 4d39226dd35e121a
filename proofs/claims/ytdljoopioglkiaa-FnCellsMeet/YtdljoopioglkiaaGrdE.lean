/- The cells of rules, in the specification, as contracts. The conditions stand at each theorem. -/
import Derived.Test.YtdljoopioglkiaaGrdD
namespace Go.Proofs.Ytdljoopioglkiaa
open Go.RowKit Go.LatT Go.BlockM Go.OpnT Go.WinMath Go.ApdG
set_option linter.unusedVariables false
set_option linter.unusedSimpArgs false
/-- Which rule is the first about a call. -/
def frstE (E : Nat → Nat → Int) (n : Nat) (x y z : Int) : Int := firstF (rabout E x y z) n
theorem l4FirstF (a : Option Addr) (len cap : Nat) (E : Nat → Nat → Int) (x y z : Int) (w : World) (hT : Tab w a len 8 E) (hl : len ≤ 1048576) (hok : ∀ i, i < len → rbad E i = false) :
    Calls Try.prog 34 #[.slice a len cap, .agg #[.int .i64 x, .int .i64 y, .int .i64 z]] w fun e w' => e = .returned (.int .i64 (frstE E len x y z)) ∧ Below w.heap.size w w' := by
  refine (l4First_any a len cap E x y z w hT hl hok).mono ?_
  rintro e w' ⟨v, rfl, F, hb⟩
  rw [isFirst_eq F]
  exact ⟨rfl, hb⟩
/-- All that a side's edges keep to. -/
def Bnd (L : List Int) : Prop := ∀ x ∈ L, 0 ≤ x ∧ x ≤ 4294967295
theorem ins_bnd {n : Int} {L : List Int} (h : Bnd L) (h0 : 0 ≤ n) (h1 : n ≤ 4294967295) : Bnd (ins n L) := by
  intro x hx
  rcases (mem_ins n x L).1 hx with rfl | hx
  · exact ⟨h0, h1⟩
  · exact h x hx
theorem edgW_bnd {E : Nat → Nat → Int} (what : Nat) (L : List Int) (hL : Bnd L) : ∀ n, (∀ i, i < n → rbad E i = false) → Bnd (edgW E what L n)
  | 0, _ => hL
  | n + 1, h => by
    have ih := edgW_bnd what L hL n (fun i hi => h i (by omega))
    have hk := h n (by omega)
    obtain ⟨⟨a0, a1, _, _⟩, b0, b1, _, _⟩ := rok_bounds hk
    have hp := rok_ports hk
    have hh := hiW_nn what hk
    have hl : 0 ≤ loW E what n ∧ loW E what n ≤ 4294967295 := by
      match what with
      | 0 => exact ⟨a0, a1⟩
      | 1 => exact ⟨b0, b1⟩
      | m + 2 => exact ⟨hp.1, by show E n 6 ≤ _; omega⟩
    have hm : mostW what ≤ 4294967295 := by
      match what with
      | 0 => exact Int.le_refl _
      | 1 => exact Int.le_refl _
      | m + 2 => show (65535 : Int) ≤ _; omega
    have i1 := ins_bnd ih hl.1 hl.2
    show Bnd (edgR _ _ _ _ (n + 1))
    unfold edgR
    simp only
    split
    · exact ins_bnd i1 (by omega) (by omega)
    · exact i1
theorem endAt_bnd {L : List Int} {most : Int} (h : Bnd L) (h0 : 0 ≤ most) (h1 : most ≤ 4294967295) (i : Nat) : -1 ≤ endAt L most i ∧ endAt L most i ≤ 4294967295 := by
  unfold endAt
  split
  · rename_i hi
    have := h (L.getD (i + 1) 0) (by rw [List.getD_eq_getElem?_getD, List.getElem?_eq_getElem hi]; exact List.getElem_mem hi)
    omega
  · omega
def Hb (out : List Cv) : Prop := ∀ x ∈ out, -1 ≤ x.h ∧ x.h ≤ 4294967295
theorem joinR_hb {out : List Cv} {c : Cv} (h : Hb out) (hc : -1 ≤ c.h ∧ c.h ≤ 4294967295) : Hb (joinR out c) := by
  unfold joinR
  split
  · intro x hx; rw [List.mem_singleton.1 hx]; exact hc
  · split
    · intro x hx
      rcases List.mem_cons.1 hx with rfl | hx
      · exact hc
      · exact h x (List.mem_cons_of_mem _ hx)
    · intro x hx
      rcases List.mem_cons.1 hx with rfl | hx
      · exact hc
      · exact h x hx
theorem stepP_hb {F T P : List Int} {f : Int → Int → Int → Int} {i k j : Nat} {out : List Cv} (h : Hb out) (hP : Bnd P) : Hb (stepP F T P f i k j out) := by
  unfold stepP
  simp only
  split
  · exact joinR_hb h (endAt_bnd hP (by omega) (by omega) j)
  · exact h
theorem rowP_hb {F T P : List Int} {f : Int → Int → Int → Int} {i k : Nat} {out : List Cv} (h : Hb out) (hP : Bnd P) : ∀ j, Hb (rowP F T P f i k j out)
  | 0 => h
  | j + 1 => stepP_hb (rowP_hb h hP j) hP
theorem colP_hb {F T P : List Int} {f : Int → Int → Int → Int} {i : Nat} {out : List Cv} (h : Hb out) (hP : Bnd P) : ∀ k, Hb (colP F T P f i k out)
  | 0 => h
  | k + 1 => rowP_hb (colP_hb h hP k) hP _
theorem allP_hb {F T P : List Int} {f : Int → Int → Int → Int} (hP : Bnd P) : ∀ i, Hb (allP F T P f i)
  | 0 => fun x hx => by cases hx
  | i + 1 => colP_hb (allP_hb hP i) hP _
/-- The cells of rules. -/
def cellsE (E : Nat → Nat → Int) (n : Nat) : List Cv := allP (edg2 E E 0 n 0) (edg2 E E 1 n 0) (edg2 E E 2 n 0) (frstE E n) (edg2 E E 0 n 0).length
/-- What holds in the middle of making cells: B the base, W2 the world where the grid stands. -/
structure CI (B : Nat) (w W2 : World) (out : List Cv) (g cap : Nat) (wr : World) : Prop where
  own : wr.ownsRow B 30 7 (.slice (some ⟨g, 0, none⟩) out.length cap) out.length (cvL out.reverse)
  below : Below B w wr
  grid : ∀ k, B < k → k < W2.heap.size → wr.heap[k]? = W2.heap[k]?
  size : W2.heap.size ≤ wr.heap.size
  place : g = B ∨ W2.heap.size ≤ g
theorem CI.cell {B : Nat} {w W2 : World} {out : List Cv} {g cap : Nat} {wr : World} (h : CI B w W2 out g cap wr) (b o : Nat) (h1 : B < b) (h2 : b < W2.heap.size) : wr.cell? ⟨b, o, none⟩ = W2.cell? ⟨b, o, none⟩ := by
  unfold World.cell?; rw [h.grid b h1 h2]
theorem CI.later {B : Nat} {w W2 : World} {out : List Cv} {g cap : Nat} {wr wn : World} (h : CI B w W2 out g cap wr) (hB : B ≤ wr.heap.size) (hb : Below wr.heap.size wr wn) : CI B w W2 out g cap wn :=
  ⟨owns_below h.own hb, h.below.trans (hb.mono hB), fun k h1 h2 => (hb.block k (Nat.lt_of_lt_of_le h2 h.size)).trans (h.grid k h1 h2), Nat.le_trans h.size hb.size, h.place⟩
theorem CI.join {B : Nat} {w W2 : World} {out : List Cv} {g cap : Nat} {c : Cv} {wr wn : World} {e : Ending} (h : CI B w W2 out g cap wr) (hB : B < W2.heap.size) (hj : JoinP B g out c wr e wn) : ∃ g' cap', e = .returned (.slice (some ⟨g', 0, none⟩) (joinR out c).length cap') ∧ CI B w W2 (joinR out c) g' cap' wn := by
  obtain ⟨g', cap', rfl, h1, h2, h3⟩ := hj
  obtain ⟨_, hg1, hg2, _, _⟩ := owns_fz h.own
  refine ⟨g', cap', rfl, h1, ?_, fun k k1 k2 => ?_, Nat.le_trans h.size h2.size, ?_⟩
  · exact h.below.grown h2 (Nat.le_trans (Nat.le_of_lt hB) h.size) (fun k hk => by rw [← Option.some.inj hk]; exact hg1)
  · have hp := h.place
    exact (h2.block k (Nat.lt_of_lt_of_le k2 h.size) (fun e => by have := Option.some.inj e; omega)).trans (h.grid k k1 k2)
  · have hp := h.place
    have := h.size
    rcases h3 with rfl | h3
    · exact hp
    · right; omega
end Go.Proofs.Ytdljoopioglkiaa
