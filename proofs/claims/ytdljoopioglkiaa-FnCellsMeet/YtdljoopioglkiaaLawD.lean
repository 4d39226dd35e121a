/- Two cells meet either way round, just if some call is in both: the draw and the walk of the law FnCellsMeet. The conditions stand at each theorem. -/
import Derived.Test.YtdljoopioglkiaaLawC
import Derived.Test.YtdljoopioglkiaaRegP
namespace Go.RegP
open Go.RowKit Go.LatT
/-- An operation that yields a value and leaves the world. -/
theorem wpE_val {P : Program} {ops : Array Oper} {C : Nat → World → Prop} {H : Nat → Prop} {N : Nat} {Post : FuncId → Array Value → Value → Prop} {own : Oper → Option Nat} {Sh : Obj → Prop} {needs : FuncId → Array Value → List (Nat × Obj)} {T : List (Nat × Obj) → Act → Prop} {o : Oper} {rest : List Oper} {gs : List (Nat × Obj)} {a : Act} {v : Value}
    (hw : Region.wanted o (yielded ops a.tmps) = true) (hrun : ∀ w, (execOp a.eval o).run P w = .ok (.value v) w)
    (h : wpE P C H N Post Sh needs own ops T rest gs (a.put o.dst v)) : wpE P C H N Post Sh needs own ops T (o :: rest) gs a := by
  refine ⟨fun _ n w hC => by rw [hrun]; exact .inl rfl, fun u add hu => ?_⟩
  unfold OutW at hu
  rw [if_pos hw] at hu
  obtain ⟨n, w, hC, hu⟩ := hu
  rw [hrun] at hu
  obtain ⟨e3, ⟨_, e4⟩ | ⟨ob, e4, _⟩⟩ := hu
  · rw [e3, e4]; exact h
  · exact absurd e4.symm (alloc_ne w ob)
end Go.RegP
namespace Go.Proofs.Ytdljoopioglkiaa
open Go.RowKit Go.LatT Go.BlockM Go.OpnT Go.RegE Go.ApdG Go.WinMath
set_option linter.unusedVariables false
set_option linter.unusedSimpArgs false
/-- A block that holds a cell, whichever. -/
def Sh7 (ob : Obj) : Prop := ∃ k0 k1 k2 k3 k4 k5 k6 : Value, ob = .cells #[k0, k1, k2, k3, k4, k5, k6] 30
/-- The class of a reader's worlds in which two blocks may be stored to. -/
structure Sq (K R G1 G2 : Nat) (sl : Value) (q : Int) (w0 : World) (n : Nat) (w : World) : Prop where
  os : w.os = w0.os
  tape : w.tape = w0.tape
  output : w.output = w0.output
  size : w0.heap.size ≤ w.heap.size
  blk : ∀ k, k < w0.heap.size → k ≠ R → k ≠ G1 → k ≠ G2 → w.heap[k]? = w0.heap[k]?
  box1 : ∃ ob, Sh7 ob ∧ w.heap[G1]? = some ob
  box2 : ∃ ob, Sh7 ob ∧ w.heap[G2]? = some ob
  rd : ∃ p, q ≤ p ∧ p ≤ q + 1000 * (min n K : Nat) ∧ Rdr w R sl p
theorem Sq.lt1 {K R G1 G2 : Nat} {sl : Value} {q : Int} {w0 w : World} {n : Nat} (h : Sq K R G1 G2 sl q w0 n w) : G1 < w.heap.size := by
  obtain ⟨ob, _, h2⟩ := h.box1
  exact (Array.getElem?_eq_some_iff.1 h2).1
theorem Sq.lt2 {K R G1 G2 : Nat} {sl : Value} {q : Int} {w0 w : World} {n : Nat} (h : Sq K R G1 G2 sl q w0 n w) : G2 < w.heap.size := by
  obtain ⟨ob, _, h2⟩ := h.box2
  exact (Array.getElem?_eq_some_iff.1 h2).1
theorem Sq.mv {K R G1 G2 : Nat} {sl : Value} {q : Int} {w0 w w' : World} {n m : Nat} {p : Int} (h : Sq K R G1 G2 sl q w0 n w) (h1R : G1 ≠ R) (h2R : G2 ≠ R) (hm : Mv R w w') (h1 : q ≤ p) (h2 : p ≤ q + 1000 * (min m K : Nat)) (hr : Rdr w' R sl p) : Sq K R G1 G2 sl q w0 m w' := by
  refine ⟨hm.os.trans h.os, hm.tape.trans h.tape, hm.output.trans h.output, Nat.le_trans h.size hm.size, fun k hk h3 h4 h5 => (hm.block k (by have := h.size; omega) h3).trans (h.blk k hk h3 h4 h5), ?_, ?_, p, h1, h2, hr⟩
  · obtain ⟨ob, h5, h6⟩ := h.box1
    exact ⟨ob, h5, (hm.block G1 h.lt1 h1R).trans h6⟩
  · obtain ⟨ob, h5, h6⟩ := h.box2
    exact ⟨ob, h5, (hm.block G2 h.lt2 h2R).trans h6⟩
theorem Sq.alloc {K R G1 G2 : Nat} {sl : Value} {q : Int} {w0 : World} (h1R : G1 ≠ R) (h2R : G2 ≠ R) : ∀ n w o, Sq K R G1 G2 sl q w0 n w → Sq K R G1 G2 sl q w0 n (w.alloc o) := by
  intro n w o h
  obtain ⟨p, h1, h2, h3⟩ := h.rd
  exact h.mv h1R h2R (Mv.of_below (below_box _ _)) h1 h2 (h3.later (below_box _ _))
theorem Sq.drew {K R G1 G2 : Nat} {sl : Value} {q : Int} {w0 w : World} {n : Nat} (h1R : G1 ≠ R) (h2R : G2 ≠ R) (h : Sq K R G1 G2 sl q w0 n w) : Sq K R G1 G2 sl q w0 n w.drew := by
  obtain ⟨p, h1, h2, h3⟩ := h.rd
  exact h.mv h1R h2R (Mv.of_below ((Below.refl _ _).drew)) h1 h2 h3.drew
theorem Sq.put {K R G1 G2 G : Nat} {sl : Value} {q : Int} {w0 : World} (h1R : G1 ≠ R) (h2R : G2 ≠ R) (hG : G = G1 ∨ G = G2) (hs : ∀ bb off n cap, sl = .slice (some ⟨bb, off, none⟩) n cap → 1 ≤ n → bb ≠ G1 ∧ bb ≠ G2) : ∀ n w ob, Sh7 ob → Sq K R G1 G2 sl q w0 n w → Sq K R G1 G2 sl q w0 n (RegP.wput w G ob) := by
  intro n w ob ho h
  have he : ∀ k, k ≠ G → (RegP.wput w G ob).heap[k]? = w.heap[k]? := fun k hk => by
    unfold RegP.wput
    rw [Array.getElem?_setIfInBounds_ne (fun e => hk e.symm)]
  have hself : G < w.heap.size → (RegP.wput w G ob).heap[G]? = some ob := fun hl => by simp [RegP.wput, hl]
  have hc : ∀ k o, k ≠ G → (RegP.wput w G ob).cell? ⟨k, o, none⟩ = w.cell? ⟨k, o, none⟩ := fun k o hk => by unfold World.cell?; rw [he k hk]
  have hf : ∀ k o, k ≠ G → (RegP.wput w G ob).frozen? ⟨k, o, none⟩ = w.frozen? ⟨k, o, none⟩ := fun k o hk => by unfold World.frozen?; rw [he k hk]
  have hRG : R ≠ G := by
    rcases hG with rfl | rfl
    · exact h1R.symm
    · exact h2R.symm
  obtain ⟨p, h1, h2, h3⟩ := h.rd
  refine ⟨h.os, h.tape, h.output, by simpa [RegP.wput] using h.size, fun k hk hR k1 k2 => (he k (by rcases hG with rfl | rfl <;> assumption)).trans (h.blk k hk hR k1 k2), ?_, ?_, p, h1, h2, ?_⟩
  · by_cases e : G1 = G
    · subst e; exact ⟨ob, ho, hself h.lt1⟩
    · rw [he _ e]; exact h.box1
  · by_cases e : G2 = G
    · subst e; exact ⟨ob, ho, hself h.lt2⟩
    · rw [he _ e]; exact h.box2
  · refine ⟨by rw [hc _ _ hRG]; exact h3.c0, by rw [hc _ _ hRG]; exact h3.c1, by rw [hf _ _ hRG]; exact h3.fz, ?_⟩
    rcases h3.src with h4 | ⟨bb, off, n, cap, z, e, hne, h5, h6, hsr⟩
    · exact .inl h4
    · have hb := hs bb off n cap e h5
      have hbb : bb ≠ G1 ∧ bb ≠ G2 → bb ≠ G := fun hb => by rcases hG with rfl | rfl; exact hb.1; exact hb.2
      exact .inr ⟨bb, off, n, cap, z, e, hne, h5, h6, ⟨fun i hi => by rw [hc _ _ (hbb hb)]; exact hsr.cell i hi, hsr.lo, hsr.hi⟩⟩
def postPick (f : FuncId) (args : Array Value) (u : Value) : Prop := f = 20 → ∃ x : Int, u = .int .i64 x ∧ 0 ≤ x ∧ ∀ m, args[1]? = some (.int .i64 m) → x < m
theorem Sq.pick {K R G1 G2 : Nat} {sl : Value} {q m : Int} {w0 : World} (h1R : G1 ≠ R) (h2R : G2 ≠ R) (hq : 0 ≤ q) (hq' : q + 1000 * K ≤ 1099511627776) (hm : 1 ≤ m) (hm' : m ≤ 4294967296) :
    RegP.Contract Try.prog (Sq K R G1 G2 sl q w0) (fun k => k ≠ R) K postPick (fun _ _ => []) 20 #[.pointer (some ⟨R, 0, none⟩), .int .i64 m] := by
  intro k w hk h _
  obtain ⟨p, h1, h2, h3⟩ := h.rd
  refine (pickM R sl p m w h3 (by omega) (by omega) hm hm').mono ?_
  rintro e w' ⟨u, rfl, u0, u1, h4, h5⟩
  exact ⟨_, rfl, fun _ => ⟨u, rfl, u0, fun m' hm => by simp at hm; omega⟩, h.mv h1R h2R h5 (by omega) (by omega) h4, fun k hk hl => h5.block k hl hk⟩
theorem u8_not7 {w : World} {G off : Nat} {z : Int} (h : w.heap[G]? = some (.cells #[.int .i64 0, .int .i64 0, .int .i64 0, .int .i64 0, .int .i64 0, .int .i64 0, .int .i64 0] 30)) (hc : w.cell? ⟨G, off, none⟩ = some (.int .u8 z)) : False := by
  unfold World.cell? at hc
  simp [h] at hc
  have := List.mem_of_getElem? hc
  simp at this
def vc (E : Nat → Int) : Value := .agg #[.int .i64 (E 0), .int .i64 (E 1), .int .i64 (E 2), .int .i64 (E 3), .int .i64 (E 4), .int .i64 (E 5), .int .i64 (E 6)]
def put7 (w : World) (g : Nat) (E : Nat → Int) : World := ((((((w.setCell ⟨g, 0, none⟩ (.int .i64 (E 0))).setCell ⟨g, 1, none⟩ (.int .i64 (E 1))).setCell ⟨g, 2, none⟩ (.int .i64 (E 2))).setCell ⟨g, 3, none⟩ (.int .i64 (E 3))).setCell ⟨g, 4, none⟩ (.int .i64 (E 4))).setCell ⟨g, 5, none⟩ (.int .i64 (E 5))).setCell ⟨g, 6, none⟩ (.int .i64 (E 6))
theorem put7_wput {w : World} {g : Nat} {k0 k1 k2 k3 k4 k5 k6 : Value} (E : Nat → Int) (h : w.heap[g]? = some (.cells #[k0, k1, k2, k3, k4, k5, k6] 30)) : put7 w g E = RegP.wput w g (.cells #[.int .i64 (E 0), .int .i64 (E 1), .int .i64 (E 2), .int .i64 (E 3), .int .i64 (E 4), .int .i64 (E 5), .int .i64 (E 6)] 30) := by
  have hlt := (Array.getElem?_eq_some_iff.1 h).1
  have h2 : w.heap[g] = .cells #[k0, k1, k2, k3, k4, k5, k6] 30 := (Array.getElem?_eq_some_iff.1 h).2
  unfold put7 World.setCell RegP.wput
  simp only [World.mk.injEq, and_true]
  apply Array.ext_getElem?
  intro k
  simp only [Array.getElem?_modify, Array.getElem?_setIfInBounds]
  by_cases hk : g = k
  · subst hk
    simp [h2, hlt]
  · simp [hk]
theorem put7_below {w w' : World} {g : Nat} (E : Nat → Int) (h : Below w.heap.size w w') (hg : w.heap.size ≤ g) : Below w.heap.size w (put7 w' g E) := by
  unfold put7
  iterate 7 refine Below.setCell ?_ (p := ⟨g, _, none⟩) hg _
  exact h
theorem put7_below2 {w w' : World} {g g' : Nat} (E F : Nat → Int) (h : Below w.heap.size w w') (hg : w.heap.size ≤ g) (hg' : w.heap.size ≤ g') : Below w.heap.size w (put7 (put7 w' g E) g' F) := by
  exact put7_below F (put7_below E h hg) hg'
/-- A cell of a list lies where it lies. -/
theorem tab7_at {w : World} {a : Option Addr} {n k : Nat} {E : Nat → Nat → Int} (h : Tab w a n 7 E) (hk : k < n) : ∃ bb off, a = some ⟨bb, off, none⟩ ∧ bb < w.heap.size ∧ ∀ j, j < 7 → w.cell? ⟨bb, off + k * 7 + j, none⟩ = some (.int .i64 (E k j)) := by
  rcases h with h | ⟨bb, off, e, h1, h2⟩
  · omega
  · exact ⟨bb, off, e, h1, fun j hj => h2 k hk j hj⟩
theorem tab7_all {w : World} {a : Option Addr} {n : Nat} {E : Nat → Nat → Int} (h : Tab w a n 7 E) (hn : 0 < n) : ∃ bb off, a = some ⟨bb, off, none⟩ ∧ bb < w.heap.size ∧ ∀ i, i < n → ∀ j, j < 7 → w.cell? ⟨bb, off + i * 7 + j, none⟩ = some (.int .i64 (E i j)) := by
  rcases h with h | ⟨bb, off, e, h1, h2⟩
  · omega
  · exact ⟨bb, off, e, h1, h2⟩
set_option maxHeartbeats 1000000 in
set_option maxRecDepth 100000 in
theorem drawCellsMeet (a : Option Addr) (len cap : Nat) (z : List Int) (w : World) (h : RowC w a len cap z) (hl : len ≤ 1048576) :
    Calls Try.prog 9 #[.slice a len cap] w fun e w' => ∃ E F : Nat → Int, e = .returned (.tuple #[vc E, vc F]) ∧ Below w.heap.size w w' := by
  have bx := below_box w (.cells #[.int .i64 0, .int .i64 0, .int .i64 0, .int .i64 0, .int .i64 0, .int .i64 0, .int .i64 0] 30)
  have bx2 := below_box (w.alloc (.cells #[.int .i64 0, .int .i64 0, .int .i64 0, .int .i64 0, .int .i64 0, .int .i64 0, .int .i64 0] 30)) (.cells #[.int .i64 0, .int .i64 0, .int .i64 0, .int .i64 0, .int .i64 0, .int .i64 0, .int .i64 0] 30)
  have H0 := hid_in (h.later (below_later bx bx2)); have Z0 := hid_in (below_later bx bx2)
  have G1 : Hid (((w.alloc (.cells #[.int .i64 0, .int .i64 0, .int .i64 0, .int .i64 0, .int .i64 0, .int .i64 0, .int .i64 0] 30)).alloc (.cells #[.int .i64 0, .int .i64 0, .int .i64 0, .int .i64 0, .int .i64 0, .int .i64 0, .int .i64 0] 30)).heap[w.heap.size]? = some (.cells #[.int .i64 0, .int .i64 0, .int .i64 0, .int .i64 0, .int .i64 0, .int .i64 0, .int .i64 0] 30)) := by show _ = _; rw [bx2.block _ (by simp)]; exact heap_new _ _ _ rfl
  have G2 : Hid (((w.alloc (.cells #[.int .i64 0, .int .i64 0, .int .i64 0, .int .i64 0, .int .i64 0, .int .i64 0, .int .i64 0] 30)).alloc (.cells #[.int .i64 0, .int .i64 0, .int .i64 0, .int .i64 0, .int .i64 0, .int .i64 0, .int .i64 0] 30)).heap[w.heap.size + 1]? = some (.cells #[.int .i64 0, .int .i64 0, .int .i64 0, .int .i64 0, .int .i64 0, .int .i64 0, .int .i64 0] 30)) := heap_new _ _ _ (by simp)
  have s0 : ((w.alloc (.cells #[.int .i64 0, .int .i64 0, .int .i64 0, .int .i64 0, .int .i64 0, .int .i64 0, .int .i64 0] 30)).alloc (.cells #[.int .i64 0, .int .i64 0, .int .i64 0, .int .i64 0, .int .i64 0, .int .i64 0, .int .i64 0] 30)).heap.size = w.heap.size + 1 + 1 := by simp
  clear h bx bx2
  go_enter Try.func9, Try.ntmps9
  go_wp2_with fail
  generalize (w.alloc (.cells #[.int .i64 0, .int .i64 0, .int .i64 0, .int .i64 0, .int .i64 0, .int .i64 0, .int .i64 0] 30)).alloc (.cells #[.int .i64 0, .int .i64 0, .int .i64 0, .int .i64 0, .int .i64 0, .int .i64 0, .int .i64 0] 30) = W0 at *
  refine (l1OpenC a len cap z _ H0.out hl).mono ?_
  rintro e w1 ⟨sl, rfl, h1, hb1⟩
  rw [s0] at h1
  have g1 := (hb1.block w.heap.size (by omega)).trans G1.out
  have g2 := (hb1.block (w.heap.size + 1) (by omega)).trans G2.out
  have HS : Hid (∀ bb off n cap, sl = .slice (some ⟨bb, off, none⟩) n cap → 1 ≤ n → bb ≠ w.heap.size ∧ bb ≠ w.heap.size + 1) := by
    intro bb off n cap e hn
    rcases h1.src with ⟨a0, c0, e0⟩ | ⟨bb0, off0, n0, cap0, z0, e0, hne, h5, h6, hsr⟩
    · rw [e] at e0
      injection e0 with _ e0 _
      omega
    · rw [e] at e0
      injection e0 with e0 e1 _
      injection e0 with e0
      injection e0 with e2 e3 _
      subst e2 e3
      constructor
      · intro hbb
        subst hbb
        exact u8_not7 g1 (hsr.cell 0 (by omega))
      · intro hbb
        subst hbb
        exact u8_not7 g2 (hsr.cell 0 (by omega))
  have H1 := hid_in h1; have K1 := hid_in g1; have K2 := hid_in g2; have Z1 := hid_in (below_later Z0.out hb1)
  have hr1 := h1.lt
  have hw1 := hb1.size
  rw [s0] at hw1
  simp only [s0]
  clear h1 g1 g2 hb1 G1 G2 H0 Z0 s0
  go_wp2_with fail
  refine (l12Rules_any (w.heap.size + 1 + 1) sl 0 _ H1.out (by omega) (by omega)).mono ?_
  rintro e w2 ⟨v2, n, E, q, rfl, o2, n1, hE, q0, q1, h2, m2⟩
  obtain ⟨a2, c2, rfl, _, T2⟩ := tab8_of o2
  have H2 := hid_in h2; have Z2 := hid_in (below_mv Z1.out (show w.heap.size ≤ w.heap.size + 1 + 1 by omega) m2); have HT2 := hid_in T2
  have K21 := hid_in ((m2.block w.heap.size (by omega) (by omega)).trans K1.out); have K22 := hid_in ((m2.block (w.heap.size + 1) (by omega) (by omega)).trans K2.out)
  have hs2 := m2.size
  clear h2 m2 H1 Z1 o2 T2 hE K1 K2
  go_wp2_with fail
  refine (cellsS_any a2 n c2 E _ HT2.out (by omega)).mono ?_
  rintro e w3 ⟨v3, L, ok, rfl, D3, o3, hb3⟩
  have hL := D3.len
  obtain ⟨a3, c3, rfl⟩ := owns_formR o3
  have H3 := hid_in (H2.out.later hb3); have Z3 := hid_in (below_later Z2.out hb3); have O3 := hid_in (ownsB (C := w.heap.size + 3) o3 (by omega))
  have K31 := hid_in ((hb3.block w.heap.size (by omega)).trans K21.out); have K32 := hid_in ((hb3.block (w.heap.size + 1) (by omega)).trans K22.out)
  have hs3 := hb3.size
  clear hb3 H2 Z2 o3 HT2 D3 K21 K22
  go_wp2_with fail
  refine (l12Rules_any (w.heap.size + 1 + 1) sl q _ H3.out (by omega) (by omega)).mono ?_
  rintro e w4 ⟨v4, n4, E4, q4, rfl, o4, n41, hE4, q40, q41, h4, m4⟩
  obtain ⟨a4, c4, rfl, _, T4⟩ := tab8_of o4
  have H4 := hid_in h4; have Z4 := hid_in (below_mv Z3.out (show w.heap.size ≤ w.heap.size + 1 + 1 by omega) m4); have HT4 := hid_in T4
  have K41 := hid_in ((m4.block w.heap.size (by omega) (by omega)).trans K31.out); have K42 := hid_in ((m4.block (w.heap.size + 1) (by omega) (by omega)).trans K32.out); have O4 := hid_in (owns_mvR O3.out m4 (by omega))
  have hs4 := m4.size
  clear h4 m4 H3 Z3 o4 T4 hE4 K31 K32 O3
  go_wp2_with fail
  refine (cellsS_any a4 n4 c4 E4 _ HT4.out (by omega)).mono ?_
  rintro e w5 ⟨v5, L5, ok5, rfl, D5, o5, hb5⟩
  have hL5 := D5.len
  obtain ⟨a5, c5, rfl⟩ := owns_formR o5
  have H5 := hid_in (H4.out.later hb5); have Z5 := hid_in (below_later Z4.out hb5); have O5 := hid_in (ownsB (C := w.heap.size + 3) o5 (by omega)); have O53 := hid_in (owns_below O4.out hb5)
  have K51 := hid_in ((hb5.block w.heap.size (by omega)).trans K41.out); have K52 := hid_in ((hb5.block (w.heap.size + 1) (by omega)).trans K42.out)
  have hs5 := hb5.size
  clear hb5 H4 Z4 o5 HT4 D5 K41 K42 O4
  have zc : ∀ (W : World) (g : Nat), W.heap[g]? = some (.cells #[.int .i64 0, .int .i64 0, .int .i64 0, .int .i64 0, .int .i64 0, .int .i64 0, .int .i64 0] 30) → (∀ o, W.frozen? ⟨g, o, none⟩ = false) ∧ (∀ o, o < 7 → W.cell? ⟨g, o, none⟩ = some (.int .i64 0)) := fun W g hg => ⟨fun o => by unfold World.frozen?; simp [hg], fun o ho => by
    unfold World.cell?; simp only [hg]
    rcases (by omega : o = 0 ∨ o = 1 ∨ o = 2 ∨ o = 3 ∨ o = 4 ∨ o = 5 ∨ o = 6) with rfl | rfl | rfl | rfl | rfl | rfl | rfl <;> rfl⟩
  have ZC := hid_in zc
  clear zc
  by_cases he : L.length = 0 ∨ L5.length = 0
  · rcases (show L.length = 0 ∨ (¬ L.length = 0 ∧ L5.length = 0) from by omega) with e0 | ⟨e0, e1⟩
    · have e2 : ((L.length : Int) == 0) = true := by simp [e0]
      have e1 := e0
      clear he
      have hR5 := H5.out.lt
      generalize L.length = N at *
      generalize L5.length = N5 at *
      clear e0 e1
      go_wp2_with fail
      refine (pickM (w.heap.size + 1 + 1) sl q4 5 _ H5.out (by omega) (by omega) (by omega) (by omega)).mono ?_
      rintro e w6 ⟨u6, rfl, ua, ub, h6, m6⟩
      have K61 := (m6.block w.heap.size (by omega) (by omega)).trans K51.out; have K62 := (m6.block (w.heap.size + 1) (by omega) (by omega)).trans K52.out
      have Z6 := hid_in (below_mv Z5.out (show w.heap.size ≤ w.heap.size + 1 + 1 by omega) m6)
      obtain ⟨f1, d1⟩ := ZC.out _ _ K61
      obtain ⟨f2, d2⟩ := ZC.out _ _ K62
      have x0 := d1 0 (by omega); have x1 := d1 1 (by omega); have x2 := d1 2 (by omega); have x3 := d1 3 (by omega); have x4 := d1 4 (by omega); have x5 := d1 5 (by omega); have x6 := d1 6 (by omega)
      have y0 := d2 0 (by omega); have y1 := d2 1 (by omega); have y2 := d2 2 (by omega); have y3 := d2 3 (by omega); have y4 := d2 4 (by omega); have y5 := d2 5 (by omega); have y6 := d2 6 (by omega)
      have ls : w.heap.size < w6.heap.size := by have := m6.size; omega
      have ls2 : w.heap.size + 1 < w6.heap.size := by have := m6.size; omega
      have PB := hid_in (put7_below2 (fun _ => 0) (fun j => match j with | 1 => 5 | 3 => 5 | 5 => u6 | _ => 0) Z6.out (Nat.le_refl _) (Nat.le_succ w.heap.size))
      clear d1 d2 h6 m6 K61 K62 H5 Z5 K51 K52 O5 O53
      go_wp2_with (exact bodyPost_ret (v := .tuple #[vc (fun _ => 0), vc (fun j => match j with | 1 => 5 | 3 => 5 | 5 => u6 | _ => 0)]) (by simp [vc, results, Try.results9, go_sem, x0, x1, x2, x3, x4, x5, x6, y0, y1, y2, y3, y4, y5, y6]) rfl ⟨_, _, rfl, PB.out⟩)
    · have e2 : ((L.length : Int) == 0) = false := beq_eq_false_iff_ne.2 (by omega)
      have e3 : ((L5.length : Int) == 0) = true := by simp [e1]
      clear he
      have hR5 := H5.out.lt
      generalize L.length = N at *
      generalize L5.length = N5 at *
      clear e0 e1
      go_wp2_with fail
      refine (pickM (w.heap.size + 1 + 1) sl q4 5 _ H5.out (by omega) (by omega) (by omega) (by omega)).mono ?_
      rintro e w6 ⟨u6, rfl, ua, ub, h6, m6⟩
      have K61 := (m6.block w.heap.size (by omega) (by omega)).trans K51.out; have K62 := (m6.block (w.heap.size + 1) (by omega) (by omega)).trans K52.out
      have Z6 := hid_in (below_mv Z5.out (show w.heap.size ≤ w.heap.size + 1 + 1 by omega) m6)
      obtain ⟨f1, d1⟩ := ZC.out _ _ K61
      obtain ⟨f2, d2⟩ := ZC.out _ _ K62
      have x0 := d1 0 (by omega); have x1 := d1 1 (by omega); have x2 := d1 2 (by omega); have x3 := d1 3 (by omega); have x4 := d1 4 (by omega); have x5 := d1 5 (by omega); have x6 := d1 6 (by omega)
      have y0 := d2 0 (by omega); have y1 := d2 1 (by omega); have y2 := d2 2 (by omega); have y3 := d2 3 (by omega); have y4 := d2 4 (by omega); have y5 := d2 5 (by omega); have y6 := d2 6 (by omega)
      have ls : w.heap.size < w6.heap.size := by have := m6.size; omega
      have ls2 : w.heap.size + 1 < w6.heap.size := by have := m6.size; omega
      have PB := hid_in (put7_below2 (fun _ => 0) (fun j => match j with | 1 => 5 | 3 => 5 | 5 => u6 | _ => 0) Z6.out (Nat.le_refl _) (Nat.le_succ w.heap.size))
      clear d1 d2 h6 m6 K61 K62 H5 Z5 K51 K52 O5 O53
      go_wp2_with (exact bodyPost_ret (v := .tuple #[vc (fun _ => 0), vc (fun j => match j with | 1 => 5 | 3 => 5 | 5 => u6 | _ => 0)]) (by simp [vc, results, Try.results9, go_sem, x0, x1, x2, x3, x4, x5, x6, y0, y1, y2, y3, y4, y5, y6]) rfl ⟨_, _, rfl, PB.out⟩)
  · have n0 : 0 < L.length := by omega
    have n5 : 0 < L5.length := by omega
    have e2 : ((L.length : Int) == 0) = false := beq_eq_false_iff_ne.2 (by omega)
    have e3 : ((L5.length : Int) == 0) = false := beq_eq_false_iff_ne.2 (by omega)
    have i0 : (1 : Int) ≤ (L.length : Int) := by omega
    have i5 : (1 : Int) ≤ (L5.length : Int) := by omega
    have j0 : (L.length : Int) ≤ 400 := by omega
    have j5 : (L5.length : Int) ≤ 400 := by omega
    obtain ⟨a6, c6, x6, _, _, T3⟩ := tab_of_cv O53.out
    simp only [Value.slice.injEq] at x6
    obtain ⟨rfl, _, rfl⟩ := x6
    obtain ⟨a7, c7, x7, _, _, T5⟩ := tab_of_cv O5.out
    simp only [Value.slice.injEq] at x7
    obtain ⟨rfl, _, rfl⟩ := x7
    have B3 := hid_in (owns_own O53.out); have B5 := hid_in (owns_own O5.out)
    obtain ⟨b3, f3, rfl, lt3, ct3⟩ := tab7_all T3 n0
    obtain ⟨b5, f5, rfl, lt5, ct5⟩ := tab7_all T5 n5
    have gb3 := (B3.out b3 rfl).1
    have gb5 := (B5.out b5 rfl).1
    have CT3 := hid_in ct3; have CT5 := hid_in ct5
    have hr5 := H5.out.lt
    generalize rowsE L = E3 at *
    generalize rowsE L5 = E5 at *
    generalize L.length = N at *
    generalize L5.length = N5 at *
    clear he T3 T5 B3 B5 O5 O53 ct3 ct5
    have h1R : w.heap.size ≠ w.heap.size + 1 + 1 := by omega
    have h2R : w.heap.size + 1 ≠ w.heap.size + 1 + 1 := by omega
    have c0 : Sq 16 (w.heap.size + 1 + 1) w.heap.size (w.heap.size + 1) sl q4 w5 0 w5 := by
      refine ⟨rfl, rfl, rfl, Nat.le_refl _, fun _ _ _ _ _ => rfl, ⟨_, ⟨_, _, _, _, _, _, _, rfl⟩, K51.out⟩, ⟨_, ⟨_, _, _, _, _, _, _, rfl⟩, K52.out⟩, q4, by omega, by simp, H5.out⟩
    go_wp2_with fail
    refine RegP.wp_region_E0 (needs := fun _ _ => []) (Sq 16 (w.heap.size + 1 + 1) w.heap.size (w.heap.size + 1) sl q4 w5) (fun k => k ≠ w.heap.size + 1 + 1) w5.heap.size postPick Sh7 (RegP.ownBy [2, 3] (fun t => if t = 2 then w.heap.size else w.heap.size + 1))
      (by kernel_rfl) (by kernel_rfl) (Sq.drew h1R h2R c0) (Sq.alloc h1R h2R) (fun n v h => by obtain ⟨p, _, _, hr⟩ := h.rd; have := hr.lt; omega) (fun n v h => h.size) ?hn (RegP.ownB_of_key (by kernel_rfl) (by simp)) ?hp ?_
    case hn => intro f args p hp; cases hp
    case hp =>
      intro x' _ g hg
      obtain ⟨t, ht, rfl⟩ := RegP.ownBy_mem hg
      by_cases ht2 : t = 2
      · subst ht2
        simp only [if_pos rfl]
        exact ⟨h1R, by show w.heap.size < w5.heap.size; omega, Sq.put h1R h2R (.inl rfl) HS.out⟩
      · simp only [if_neg ht2]
        exact ⟨h2R, by show w.heap.size + 1 < w5.heap.size; omega, Sq.put h1R h2R (.inr rfl) HS.out⟩
    have hnn : Nonempty (RegP.LatC (Sq 16 (w.heap.size + 1 + 1) w.heap.size (w.heap.size + 1) sl q4 w5)) := ⟨⟨0, w5, c0⟩⟩
    have hG3 : Hid (∀ (l : RegP.LatC (Sq 16 (w.heap.size + 1 + 1) w.heap.size (w.heap.size + 1) sl q4 w5)) i, l.x.cell? ⟨b3, i, none⟩ = w5.cell? ⟨b3, i, none⟩) := fun l i => by unfold World.cell?; rw [l.h.blk _ lt3 (by omega) (by omega) (by omega)]
    have hG5 : Hid (∀ (l : RegP.LatC (Sq 16 (w.heap.size + 1 + 1) w.heap.size (w.heap.size + 1) sl q4 w5)) i, l.x.cell? ⟨b5, i, none⟩ = w5.cell? ⟨b5, i, none⟩) := fun l i => by unfold World.cell?; rw [l.h.blk _ lt5 (by omega) (by omega) (by omega)]
    repeat (refine RegP.wpE_one rfl rfl ?_; go_big_quiet_step (fail); refine wpQuiet_nil ?_)
    refine RegP.wpE_val (v := .int .i64 (N : Int)) (by rfl) (fun _ => by go_simp) ?_
    simp only [Act.put, List.setIfInBounds_toArray, List.set_cons_succ, List.set_cons_zero]
    refine RegP.wpE_call (by rfl) (fun _ => by go_simp) (Sq.pick (K := 16) (q := q4) (m := (N : Int)) h1R h2R (by omega) (by omega) i0 (by omega)) ⟨.int .i64 0, fun _ => ⟨0, rfl, by omega, fun m hm => by simp at hm; omega⟩⟩ (fun p hp => by cases hp) ?_
    intro u1 hu1
    obtain ⟨y1, rfl, y10, y11⟩ := hu1 rfl
    have y12 := y11 (N : Int) rfl
    obtain ⟨k1, rfl⟩ := Int.eq_ofNat_of_zero_le y10
    have z1 : k1 < N := by omega
    have zi1 : (0 : Int) ≤ (k1 : Int) := by omega
    have hcl1 : ∀ (j : Nat), j < 7 → ∀ l : RegP.LatC (Sq 16 (w.heap.size + 1 + 1) w.heap.size (w.heap.size + 1) sl q4 w5), l.x.cell? ⟨b3, f3 + k1 * 7 + j, none⟩ = some (.int .i64 (E3 k1 j)) := fun j hj l => (hG3.out l _).trans (CT3.out k1 z1 j hj)
    have hcl10 : ∀ l : RegP.LatC (Sq 16 (w.heap.size + 1 + 1) w.heap.size (w.heap.size + 1) sl q4 w5), l.x.cell? ⟨b3, f3 + k1 * 7, none⟩ = some (.int .i64 (E3 k1 0)) := hcl1 0 (by omega)
    have hcl11 := hcl1 1 (by omega); have hcl12 := hcl1 2 (by omega); have hcl13 := hcl1 3 (by omega); have hcl14 := hcl1 4 (by omega); have hcl15 := hcl1 5 (by omega); have hcl16 := hcl1 6 (by omega)
    clear hcl1 hu1 y10 y11
    simp only [Act.put, List.setIfInBounds_toArray, List.set_cons_succ, List.set_cons_zero]
    repeat (refine RegP.wpE_one rfl rfl ?_; go_big_quiet_step (fail); refine wpQuiet_nil ?_)
    refine RegP.wpE_val (v := .int .i64 (N5 : Int)) (by rfl) (fun _ => by go_simp) ?_
    simp only [Act.put, List.setIfInBounds_toArray, List.set_cons_succ, List.set_cons_zero]
    refine RegP.wpE_call (by rfl) (fun _ => by go_simp) (Sq.pick (K := 16) (q := q4) (m := (N5 : Int)) h1R h2R (by omega) (by omega) i5 (by omega)) ⟨.int .i64 0, fun _ => ⟨0, rfl, by omega, fun m hm => by simp at hm; omega⟩⟩ (fun p hp => by cases hp) ?_
    intro u2 hu2
    obtain ⟨y2, rfl, y20, y21⟩ := hu2 rfl
    have y22 := y21 (N5 : Int) rfl
    obtain ⟨k2, rfl⟩ := Int.eq_ofNat_of_zero_le y20
    have z2 : k2 < N5 := by omega
    have zi2 : (0 : Int) ≤ (k2 : Int) := by omega
    have hcl2 : ∀ (j : Nat), j < 7 → ∀ l : RegP.LatC (Sq 16 (w.heap.size + 1 + 1) w.heap.size (w.heap.size + 1) sl q4 w5), l.x.cell? ⟨b5, f5 + k2 * 7 + j, none⟩ = some (.int .i64 (E5 k2 j)) := fun j hj l => (hG5.out l _).trans (CT5.out k2 z2 j hj)
    have hcl20 : ∀ l : RegP.LatC (Sq 16 (w.heap.size + 1 + 1) w.heap.size (w.heap.size + 1) sl q4 w5), l.x.cell? ⟨b5, f5 + k2 * 7, none⟩ = some (.int .i64 (E5 k2 0)) := hcl2 0 (by omega)
    have hcl21 := hcl2 1 (by omega); have hcl22 := hcl2 2 (by omega); have hcl23 := hcl2 3 (by omega); have hcl24 := hcl2 4 (by omega); have hcl25 := hcl2 5 (by omega); have hcl26 := hcl2 6 (by omega)
    clear hcl2 hu2 y20 y21
    simp only [Act.put, List.setIfInBounds_toArray, List.set_cons_succ, List.set_cons_zero]
    repeat (refine RegP.wpE_one rfl rfl ?_; go_big_quiet_step (fail); refine wpQuiet_nil ?_)
    clear hcl10 hcl20 hcl11 hcl21 hcl12 hcl22 hcl13 hcl23 hcl14 hcl24 hcl15 hcl25 hcl16 hcl26 hnn
    refine RegP.wpE_poke (g := w.heap.size) (ob := .cells #[.int .i64 (E3 k1 0), .int .i64 (E3 k1 1), .int .i64 (E3 k1 2), .int .i64 (E3 k1 3), .int .i64 (E3 k1 4), .int .i64 (E3 k1 5), .int .i64 (E3 k1 6)] 30) (by rfl) (by rfl) ⟨_, _, _, _, _, _, _, rfl⟩ (fun n v h => h.lt1) (fun n v hv => ?_) ?_
    · obtain ⟨ob, ⟨q0, q1, q2, q3, q4, q5, q6, rfl⟩, hb⟩ := hv.box1
      rw [← put7_wput (E3 k1) hb]
      unfold put7
      have r0 : v.cell? ⟨w.heap.size, 0, none⟩ = some q0 := by unfold World.cell?; simp [hb]
      have s0 : v.frozen? ⟨w.heap.size, 0, none⟩ = false := by unfold World.frozen?; simp [hb]
      have r1 : v.cell? ⟨w.heap.size, 1, none⟩ = some q1 := by unfold World.cell?; simp [hb]
      have s1 : v.frozen? ⟨w.heap.size, 1, none⟩ = false := by unfold World.frozen?; simp [hb]
      have r2 : v.cell? ⟨w.heap.size, 2, none⟩ = some q2 := by unfold World.cell?; simp [hb]
      have s2 : v.frozen? ⟨w.heap.size, 2, none⟩ = false := by unfold World.frozen?; simp [hb]
      have r3 : v.cell? ⟨w.heap.size, 3, none⟩ = some q3 := by unfold World.cell?; simp [hb]
      have s3 : v.frozen? ⟨w.heap.size, 3, none⟩ = false := by unfold World.frozen?; simp [hb]
      have r4 : v.cell? ⟨w.heap.size, 4, none⟩ = some q4 := by unfold World.cell?; simp [hb]
      have s4 : v.frozen? ⟨w.heap.size, 4, none⟩ = false := by unfold World.frozen?; simp [hb]
      have r5 : v.cell? ⟨w.heap.size, 5, none⟩ = some q5 := by unfold World.cell?; simp [hb]
      have s5 : v.frozen? ⟨w.heap.size, 5, none⟩ = false := by unfold World.frozen?; simp [hb]
      have r6 : v.cell? ⟨w.heap.size, 6, none⟩ = some q6 := by unfold World.cell?; simp [hb]
      have s6 : v.frozen? ⟨w.heap.size, 6, none⟩ = false := by unfold World.frozen?; simp [hb]
      go_simp
    simp only [Act.put]
    refine RegP.wpE_poke (g := w.heap.size + 1) (ob := .cells #[.int .i64 (E5 k2 0), .int .i64 (E5 k2 1), .int .i64 (E5 k2 2), .int .i64 (E5 k2 3), .int .i64 (E5 k2 4), .int .i64 (E5 k2 5), .int .i64 (E5 k2 6)] 30) (by rfl) (by rfl) ⟨_, _, _, _, _, _, _, rfl⟩ (fun n v h => h.lt2) (fun n v hv => ?_) ?_
    · obtain ⟨ob, ⟨q0, q1, q2, q3, q4, q5, q6, rfl⟩, hb⟩ := hv.box2
      rw [← put7_wput (E5 k2) hb]
      unfold put7
      have r0 : v.cell? ⟨w.heap.size + 1, 0, none⟩ = some q0 := by unfold World.cell?; simp [hb]
      have s0 : v.frozen? ⟨w.heap.size + 1, 0, none⟩ = false := by unfold World.frozen?; simp [hb]
      have r1 : v.cell? ⟨w.heap.size + 1, 1, none⟩ = some q1 := by unfold World.cell?; simp [hb]
      have s1 : v.frozen? ⟨w.heap.size + 1, 1, none⟩ = false := by unfold World.frozen?; simp [hb]
      have r2 : v.cell? ⟨w.heap.size + 1, 2, none⟩ = some q2 := by unfold World.cell?; simp [hb]
      have s2 : v.frozen? ⟨w.heap.size + 1, 2, none⟩ = false := by unfold World.frozen?; simp [hb]
      have r3 : v.cell? ⟨w.heap.size + 1, 3, none⟩ = some q3 := by unfold World.cell?; simp [hb]
      have s3 : v.frozen? ⟨w.heap.size + 1, 3, none⟩ = false := by unfold World.frozen?; simp [hb]
      have r4 : v.cell? ⟨w.heap.size + 1, 4, none⟩ = some q4 := by unfold World.cell?; simp [hb]
      have s4 : v.frozen? ⟨w.heap.size + 1, 4, none⟩ = false := by unfold World.frozen?; simp [hb]
      have r5 : v.cell? ⟨w.heap.size + 1, 5, none⟩ = some q5 := by unfold World.cell?; simp [hb]
      have s5 : v.frozen? ⟨w.heap.size + 1, 5, none⟩ = false := by unfold World.frozen?; simp [hb]
      have r6 : v.cell? ⟨w.heap.size + 1, 6, none⟩ = some q6 := by unfold World.cell?; simp [hb]
      have s6 : v.frozen? ⟨w.heap.size + 1, 6, none⟩ = false := by unfold World.frozen?; simp [hb]
      go_simp
    simp only [Act.put]
    refine RegP.wpE_nil ?_
    intro m7 w7 h7 hh
    have hA := hh (w.heap.size, .cells #[.int .i64 (E3 k1 0), .int .i64 (E3 k1 1), .int .i64 (E3 k1 2), .int .i64 (E3 k1 3), .int .i64 (E3 k1 4), .int .i64 (E3 k1 5), .int .i64 (E3 k1 6)] 30) (by simp)
    have hB := hh (w.heap.size + 1, .cells #[.int .i64 (E5 k2 0), .int .i64 (E5 k2 1), .int .i64 (E5 k2 2), .int .i64 (E5 k2 3), .int .i64 (E5 k2 4), .int .i64 (E5 k2 5), .int .i64 (E5 k2 6)] 30) (by simp)
    have Z7 : Hid (Below w.heap.size w w7) := ⟨h7.os.trans Z5.out.os, h7.tape.trans Z5.out.tape, h7.output.trans Z5.out.output, Nat.le_trans Z5.out.size h7.size, fun k hk => (h7.blk k (by omega) (by omega) (by omega) (by omega)).trans (Z5.out.block k hk)⟩
    have HA := hid_in hA; have HB := hid_in hB
    clear hA hB hh h7 c0
    go_wp2_with (exact bodyPost_ret (v := .tuple #[vc (E3 k1), vc (E5 k2)]) (by
      have d0 := RegP.held_cell HA.out 0 (by simp); have d1 := RegP.held_cell HA.out 1 (by simp); have d2 := RegP.held_cell HA.out 2 (by simp); have d3 := RegP.held_cell HA.out 3 (by simp); have d4 := RegP.held_cell HA.out 4 (by simp); have d5 := RegP.held_cell HA.out 5 (by simp); have d6 := RegP.held_cell HA.out 6 (by simp)
      have p0 := RegP.held_cell HB.out 0 (by simp); have p1 := RegP.held_cell HB.out 1 (by simp); have p2 := RegP.held_cell HB.out 2 (by simp); have p3 := RegP.held_cell HB.out 3 (by simp); have p4 := RegP.held_cell HB.out 4 (by simp); have p5 := RegP.held_cell HB.out 5 (by simp); have p6 := RegP.held_cell HB.out 6 (by simp)
      simp at d0 d1 d2 d3 d4 d5 d6 p0 p1 p2 p3 p4 p5 p6
      simp [vc, results, Try.results9, go_sem, d0, d1, d2, d3, d4, d5, d6, p0, p1, p2, p3, p4, p5, p6]) rfl ⟨E3 k1, E5 k2, rfl, Z7.out⟩)
end Go.Proofs.Ytdljoopioglkiaa
