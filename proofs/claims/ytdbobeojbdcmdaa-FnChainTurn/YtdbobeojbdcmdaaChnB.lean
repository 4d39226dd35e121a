/- What lies where while blocks are chained, in the program. The conditions stand at each theorem. -/
import Derived.Test.YtdbobeojbdcmdaaGriA
import Derived.Deep.MidRow
namespace Go.Proofs.Ytdbobeojbdcmdaa
open Go.RowKit Go.LatT Go.BlockM Go.PlainAid Go.OpnT Go.ApdG Go.BytM Go.AesM Go.RowQ Go.RegH
set_option linter.unusedVariables false
set_option linter.unusedSimpArgs false
/-- A list of cells, some of them laid anew. -/
def setMany : List Value → Nat → List Value → List Value
  | xs, _, [] => xs
  | xs, o, v :: vs => setMany (xs.set o v) (o + 1) vs
theorem setMany_len : ∀ (vs xs : List Value) (o : Nat), (setMany xs o vs).length = xs.length
  | [], _, _ => rfl
  | v :: vs, xs, o => by rw [setMany, setMany_len vs, List.length_set]
theorem setMany_get : ∀ (vs xs : List Value) (o i : Nat), o + vs.length ≤ xs.length → (setMany xs o vs)[i]? = if o ≤ i ∧ i < o + vs.length then vs[i - o]? else xs[i]?
  | [], xs, o, i, _ => by
    rw [setMany, if_neg (by simp only [List.length_nil]; omega)]
  | v :: vs, xs, o, i, h => by
    simp only [List.length_cons] at h
    rw [setMany, setMany_get vs _ _ i (by rw [List.length_set]; omega)]
    by_cases h1 : o + 1 ≤ i ∧ i < o + 1 + vs.length
    · rw [if_pos h1, if_pos (by simp only [List.length_cons]; omega), show i - o = i - (o + 1) + 1 by omega, List.getElem?_cons_succ]
    · rw [if_neg h1]
      by_cases h2 : i = o
      · subst h2
        rw [if_pos (by simp only [List.length_cons]; omega), Nat.sub_self, List.getElem?_cons_zero, List.getElem?_set, if_pos rfl, if_pos (by omega)]
      · rw [if_neg (by simp only [List.length_cons]; omega), List.getElem?_set, if_neg (fun e => h2 e.symm)]
theorem owns_setMany {base size n cap g : Nat} {e : TypeId} : ∀ (vs : List Value) (w : World) (xs : List Value) (o : Nat), w.ownsRow base e size (.slice (some ⟨g, 0, none⟩) n cap) n xs → (w.setCells g o vs).ownsRow base e size (.slice (some ⟨g, 0, none⟩) n cap) n (setMany xs o vs)
  | [], _, _, _, h => h
  | v :: vs, w, xs, o, h => owns_setMany vs _ _ _ (World.ownsRow.stored h o v).1
theorem setCells_other {g k : Nat} (hk : k ≠ g) : ∀ (vs : List Value) (w : World) (o : Nat), (w.setCells g o vs).heap[k]? = w.heap[k]?
  | [], _, _ => rfl
  | v :: vs, w, o => by rw [World.setCells, setCells_other hk vs, heap_setCell_other _ ⟨g, o, none⟩ k v hk]
theorem setCells_size (g : Nat) : ∀ (vs : List Value) (w : World) (o : Nat), (w.setCells g o vs).heap.size = w.heap.size
  | [], _, _ => rfl
  | v :: vs, w, o => by rw [World.setCells, setCells_size g vs]; simp
theorem Below_setCells {B g : Nat} (hg : B ≤ g) : ∀ (vs : List Value) (w W : World) (o : Nat), Below B w W → Below B w (W.setCells g o vs)
  | [], _, _, _, h => h
  | v :: vs, w, W, o, h => Below_setCells hg vs w _ _ (h.setCell (p := ⟨g, o, none⟩) hg v)
theorem gC_set (n : Nat) (T : Nat → Nat → Nat) (k : Nat) (x : Nat → Nat) (hk : k < n) : setMany (gC n T) (k * 16) (rC 16 x).toList = gC n (fun i => if i = k then x else T i) := by
  have hl : (rC 16 x).toList.length = 16 := by rw [Array.length_toList, rC_size]
  have hle : k * 16 + 16 ≤ n * 16 := by omega
  apply List.ext_getElem?
  intro p
  rw [setMany_get _ _ _ _ (by rw [hl, gC_len]; exact hle), hl]
  by_cases hp : p < n * 16
  · have hq : p / 16 < n := by omega
    have hr : p % 16 < 16 := Nat.mod_lt _ (by omega)
    have e : p = p / 16 * 16 + p % 16 := by omega
    have g1 := gC_get T n (p / 16) (p % 16) hq hr
    have g2 := gC_get (fun i => if i = k then x else T i) n (p / 16) (p % 16) hq hr
    rw [← e] at g1 g2
    rw [g2]
    by_cases h1 : k * 16 ≤ p ∧ p < k * 16 + 16
    · have hk2 : p / 16 = k := by omega
      rw [if_pos h1, if_pos hk2, Array.getElem?_toList, show p - k * 16 = p % 16 by omega, rC_get 16 x (p % 16) hr]
    · have hk2 : ¬ p / 16 = k := by omega
      rw [if_neg h1, if_neg hk2, g1]
  · rw [if_neg (by omega), List.getElem?_eq_none (by rw [gC_len]; omega), List.getElem?_eq_none (by rw [gC_len]; omega)]
/-- A cipher's box, empty. -/
def CZ (W : World) (gc : Nat) : Prop := W.heap[gc]? = some (.cells #[.pointer none, .slice none 0 0] 45 (0, 0))
theorem CZ.lt {W : World} {gc : Nat} (h : CZ W gc) : gc < W.heap.size := (Array.getElem?_eq_some_iff.1 h).1
theorem CZ.later {W W' : World} {gc : Nat} (h : CZ W gc) (hb : Below W.heap.size W W') : CZ W' gc := by
  unfold CZ; rw [hb.block gc h.lt]; exact h
theorem CZ.new (w : World) : CZ (w.alloc (.cells #[.pointer none, .slice none 0 0] 45)) w.heap.size := heap_alloc_new w _
/-- What lies where while blocks are chained. -/
structure HS (w W : World) (gc gt gk ga cap n B : Nat) (v : Value) (K T : Nat → Nat → Nat) (f : Nat → Nat) : Prop where
  bel : Below w.heap.size w W
  box : CB W gc gt (.slice (some ⟨gk, 0, none⟩) 11 cap)
  tab : RB W gt 512 69 (tabF 255)
  keys : KR W gk 11 K
  ahd : RB W ga 16 41 f
  lst : GL W B v n T
  hB : w.heap.size ≤ B
  kB : gk < B
  ne : ∀ g, v.ownBlock = some g → g ≠ ga
  cB : w.heap.size ≤ gc
  aB : w.heap.size ≤ ga
  ka : gk ≠ ga
section
variable {w W W' : World} {gc gt gk ga cap n B : Nat} {v : Value} {K T : Nat → Nat → Nat} {f h : Nat → Nat}
theorem ne_of_type {W : World} {a b : Nat} {ca cb : Array Value} {s t : TypeId} (ha : W.heap[a]? = some (.cells ca s (0, 0))) (hb : W.heap[b]? = some (.cells cb t (0, 0))) (hst : s ≠ t) : a ≠ b := by
  intro e
  subst e
  rw [ha] at hb
  have := congrArg (fun o => match o with | some (Obj.cells _ t _) => t | _ => 0) hb
  exact hst this
theorem KR.ne_row {W : World} {gk g : Nat} {K : Nat → Nat → Nat} {cs : Array Value} {t : TypeId} (hk : KR W gk 11 K) (hg : W.heap[g]? = some (.cells cs t (0, 0))) (hs : cs.size ≤ 16) : gk ≠ g := by
  intro e
  subst e
  have := hk.cell 1 (by omega) 0 (by omega)
  rw [cell_of_row W gk _ _ _ _ hg, Array.getElem?_eq_none (by omega)] at this
  cases this
theorem KR.of_block {W W' : World} {gk m : Nat} {K : Nat → Nat → Nat} (hk : KR W gk m K) (hb : W'.heap[gk]? = W.heap[gk]?) (hs : W.heap.size ≤ W'.heap.size) : KR W' gk m K :=
  ⟨Nat.lt_of_lt_of_le hk.lt hs, fun i hi j hj => by have := hk.cell i hi j hj; unfold World.cell? at this ⊢; rw [hb]; exact this⟩
theorem owns_of_blocks {W W' : World} {B size n : Nat} {e : TypeId} {v : Value} {xs : List Value} (ho : W.ownsRow B e size v n xs) (hb : ∀ g, v.ownBlock = some g → W'.heap[g]? = W.heap[g]?) : W'.ownsRow B e size v n xs := by
  obtain ⟨h1, h2⟩ := ho
  refine ⟨h1, ?_⟩
  rcases h2 with h2 | ⟨g, cp, cur, e1, e2, e3, e4⟩
  · exact .inl h2
  · exact .inr ⟨g, cp, cur, e1, e2, by rw [hb g (by rw [e1]; rfl)]; exact e3, e4⟩
theorem HS.later (s : HS w W gc gt gk ga cap n B v K T f) (hb : Below W.heap.size W W') : HS w W' gc gt gk ga cap n B v K T f :=
  ⟨below_later s.bel hb, s.box.later hb, RBlater s.tab hb, s.keys.later hb, RBlater s.ahd hb, owns_below s.lst hb, s.hB, s.kB, s.ne, s.cB, s.aB, s.ka⟩
theorem HS.drew (s : HS w W gc gt gk ga cap n B v K T f) : HS w W.drew gc gt gk ga cap n B v K T f :=
  ⟨s.bel.drew, s.box, s.tab, ⟨s.keys.lt, s.keys.cell⟩, s.ahd, s.lst, s.hB, s.kB, s.ne, s.cB, s.aB, s.ka⟩
theorem HS.setA (s : HS w W gc gt gk ga cap n B v K T f) (h : Nat → Nat) : HS w (W.setRow ga (rC 16 h)) gc gt gk ga cap n B v K T h := by
  have n1 : gc ≠ ga := ne_of_type s.box s.ahd (by decide)
  have n2 : gt ≠ ga := ne_of_type s.tab s.ahd (by decide)
  refine ⟨Below_setRow s.bel s.aB, ?_, ?_, ?_, setRow_at s.ahd, ?_, s.hB, s.kB, s.ne, s.cB, s.aB, s.ka⟩
  · unfold CB; rw [setRow_other n1]; exact s.box
  · unfold RB; rw [setRow_other n2]; exact s.tab
  · exact s.keys.of_block (setRow_other s.ka) (by simp [World.setRow])
  · exact owns_of_blocks s.lst fun g hg => setRow_other (s.ne g hg)
theorem HS.setL {g c : Nat} (s : HS w W gc gt gk ga cap n B (.slice (some ⟨g, 0, none⟩) n c) K T f) (hn : 0 < n) (k : Nat) (hk : k < n) (x : Nat → Nat) :
    HS w (W.setCells g (k * 16) (rC 16 x).toList) gc gt gk ga cap n B (.slice (some ⟨g, 0, none⟩) n c) K (fun i => if i = k then x else T i) f := by
  obtain ⟨g', c', cur, hu, hc, hg, R, hh, hz⟩ := s.lst.row hn
  have hu2 : g = g' ∧ c = c' := by simpa using hu
  obtain ⟨rfl, rfl⟩ := hu2
  have n1 : gc ≠ g := ne_of_type s.box hh (by decide)
  have n2 : gt ≠ g := ne_of_type s.tab hh (by decide)
  have n3 : gk ≠ g := by have := s.kB; omega
  have n4 : ga ≠ g := fun e => s.ne g rfl e.symm
  refine ⟨Below_setCells (by have := s.hB; omega) _ _ _ _ s.bel, ?_, ?_, ?_, ?_, ?_, s.hB, s.kB, s.ne, s.cB, s.aB, s.ka⟩
  · unfold CB; rw [setCells_other n1]; exact s.box
  · unfold RB; rw [setCells_other n2]; exact s.tab
  · exact s.keys.of_block (setCells_other n3 _ _ _) (by rw [setCells_size]; exact Nat.le_refl _)
  · unfold RB; rw [setCells_other n4]; exact s.ahd
  · have := owns_setMany (rC 16 x).toList W (gC n T) (k * 16) s.lst
    rw [gC_set n T k x hk] at this
    exact this
theorem HS.congr {T' : Nat → Nat → Nat} (s : HS w W gc gt gk ga cap n B v K T f) (eT : ∀ i, i < n → ∀ j, j < 16 → T i j = T' i j) (ef : ∀ j, j < 16 → f j = h j) : HS w W gc gt gk ga cap n B v K T' h :=
  ⟨s.bel, s.box, s.tab, s.keys, s.ahd.congr ef, s.lst.congr eT, s.hB, s.kB, s.ne, s.cB, s.aB, s.ka⟩
/-- Behind the two stores that lay the boxes. -/
theorem HS.start (hbel : Below w.heap.size w W) (hz : CZ W gc) (htab : RB W gt 512 69 (tabF 255)) (hkeys : KR W gk 11 K) (hahd : RB W ga 16 41 f) (hlst : GL W B v n T) (hB : w.heap.size ≤ B) (kB : gk < B)
    (ne : ∀ g, v.ownBlock = some g → g ≠ ga) (cB : w.heap.size ≤ gc) (aB : w.heap.size ≤ ga) :
    HS w (W.setRow gc #[.pointer (some ⟨gt, 0, none⟩), .slice (some ⟨gk, 0, none⟩) 11 cap]) gc gt gk ga cap n B v K T f ∧ RB (W.setRow gc #[.pointer (some ⟨gt, 0, none⟩), .slice (some ⟨gk, 0, none⟩) 11 cap]) ga 16 41 f := by
  have n1 : ga ≠ gc := ne_of_type hahd hz (by decide)
  have n2 : gt ≠ gc := ne_of_type htab hz (by decide)
  have n3 : gk ≠ gc := hkeys.ne_row hz (by simp)
  have n4 : gk ≠ ga := hkeys.ne_row hahd (by rw [rC_size]; exact Nat.le_refl _)
  have a1 : RB (W.setRow gc #[.pointer (some ⟨gt, 0, none⟩), .slice (some ⟨gk, 0, none⟩) 11 cap]) ga 16 41 f := by unfold RB; rw [setRow_other n1]; exact hahd
  refine ⟨⟨Below_setRow hbel cB, setRow_at hz, ?_, hkeys.of_block (setRow_other n3) (by simp [World.setRow]), a1, ?_, hB, kB, ne, cB, aB, n4⟩, a1⟩
  · unfold RB; rw [setRow_other n2]; exact htab
  · refine owns_of_blocks hlst fun g hg => setRow_other ?_
    intro e
    subst e
    rcases hlst.2 with ⟨e1, _⟩ | ⟨g2, cp, cur, e1, e2, e3, _⟩
    · rw [e1] at hg; cases hg
    · rw [e1] at hg
      have : g2 = g := by simpa [Value.ownBlock] using hg
      subst this
      exact absurd rfl (ne_of_type e3 hz (by decide))
end
end Go.Proofs.Ytdbobeojbdcmdaa
