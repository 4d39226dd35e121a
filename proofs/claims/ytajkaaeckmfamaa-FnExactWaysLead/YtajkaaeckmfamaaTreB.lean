/- A block turned to a hop in a tree, in the program, as a contract. The conditions stand at the theorem. -/
import Derived.Test.YtajkaaeckmfamaaTreA
import Derived.Laws.OwnMore
import Derived.OneCell
import Derived.Test.YtajkaaeckmfamaaTai
namespace Go.LatT
open Go.RowKit
theorem wp_region_lat_tail2 {P : Program} {id : Nat} {Q : Exit → Act → World → Prop} {a : Act} {w wn : World} {l init : List Oper} {o2 o3 : Oper} (h0 : Below w.heap.size w wn) (hm : P.follows .mixedOrders = true)
    (hi : l.dropLast.dropLast = init) (h2 : l.dropLast.getLast? = some o2) (h3 : l.getLast? = some o3) (hB : tailsB init [o2, o3] = true)
    (h : Nonempty (Lat w) → (∀ (l : Lat w) (b o : Nat), b < w.heap.size → l.x.cell? ⟨b, o, none⟩ = w.cell? ⟨b, o, none⟩) →
      wpQuiet P init.toArray (fun w' => ∃ n : Lat w, w' = n.x) (fun a' => ∀ w', Below w.heap.size w w' → wpList P l.toArray Q [o2, o3] a' w') init a) : (Code.region id l.toArray true).wp P Q a wn := by
  have cut : ∀ (l : List Oper) (o : Oper), l.getLast? = some o → l = l.dropLast ++ [o] := fun l o ho => by
    have hne : l ≠ [] := by intro e; rw [e] at ho; cases ho
    rw [List.getLast?_eq_some_getLast hne] at ho
    rw [← Option.some.inj ho]; exact (List.dropLast_concat_getLast hne).symm
  have hl : l = init ++ [o2, o3] := by
    have c3 := cut l o3 h3
    have c2 := cut l.dropLast o2 h2
    rw [hi] at c2
    rw [c3, c2]
    simp
  rw [hl] at h ⊢
  exact wp_region_lat_tails h0 hm hB h
end Go.LatT
namespace Go.Proofs.Ytajkaaeckmfamaa
open Go.RowKit Go.LatT Go.BlockM Go.OpnT Go.ApdG Go.TreM
set_option linter.unusedVariables false
set_option linter.unusedSimpArgs false
theorem one3 (a b c : Int) : ∀ u ∈ [Value.int .i64 a, .int .i64 b, .int .i64 c], u.oneCell' = true := by
  intro u hu
  simp at hu
  rcases hu with rfl | rfl | rfl <;> rfl
theorem own_form {w : World} {B e k n : Nat} {v : Value} {xs : List Value} (h : w.ownsRow B e k v n xs) (hn : 0 < n) : ∃ g cap, v = .slice (some ⟨g, 0, none⟩) n cap := by
  rcases h.2 with ⟨_, h'⟩ | ⟨g, cap, cur, h', _⟩
  · omega
  · exact ⟨g, cap, h'⟩
theorem of_blk {w : World} {t T : Nat} {u : Value} (h : w.heap[t]? = some (.cells #[u] T (0, 0))) : w.cell? ⟨t, 0, none⟩ = some u ∧ w.frozen? ⟨t, 0, none⟩ = false := by
  refine ⟨?_, Lib.frozen_of_heap h 0⟩
  rw [Lib.cell_of_heap h]
  rfl
theorem own_cell {w : World} {B e g n cap : Nat} {T : Nat → Nat → Int} (h : w.ownsRow B e 3 (.slice (some ⟨g, 0, none⟩) n cap) n (flatC T 3 n)) (i j : Nat) (hi : i < n) (hj : j < 3) : w.cell? ⟨g, i * 3 + j, none⟩ = some (.int .i64 (T i j)) := by
  have := h.cells (g := g) rfl (i * 3 + j) _ (flatC_get T 3 n i j hi hj)
  unfold Addr.add at this
  by_cases hz : i * 3 + j = 0
  · rw [if_pos hz] at this
    rw [show i * 3 + j = 0 by omega]
    exact this
  · rw [if_neg hz] at this
    rw [show i * 3 + j = 0 + (i * 3 + j) by omega]
    exact this
theorem Tr.grow {w : World} {B t g n cap : Nat} {T : Nat → Nat → Int} {u : Value} (tb : B ≤ t) (hb : w.heap[t]? = some (.cells #[u] 70 (0, 0))) (o : w.ownsRow B 67 3 (.slice (some ⟨g, 0, none⟩) n cap) n (flatC T 3 n)) (np : 0 < n) :
    Tr (w.setCell ⟨t, 0, none⟩ (.slice (some ⟨g, 0, none⟩) n cap)) B t g n cap T ∧ t ≠ g := by
  have hne : t ≠ g := by obtain ⟨cur, h1, _⟩ := owns_blk o; exact blk_ne hb h1 (by decide)
  refine ⟨⟨tb, ?_, ?_, np⟩, hne⟩
  · exact heap_setCell_same w t 0 #[u] 70 _ hb
  · exact ownsRow_setCell_other o (by simp [Value.ownBlock]; exact fun e => hne e.symm) _
/-- What lies where on the way down. -/
structure TS (w wr : World) (B t P g n cap n0 : Nat) (T : Nat → Nat → Int) (f : Int → Nat → Int) (b : Int) (c p i : Nat) : Prop where
  tr : Tr wr B t g n cap T
  is : TreeIs T n f
  pth : nd T b p = some i
  bx : wr.heap[P]? = some (.cells #[.int .i64 b, .int .i64 (c : Int)] 59 (0, 0))
  bel : Below B w wr
  len : n ≤ n0 + p
set_option maxHeartbeats 600000 in
set_option maxRecDepth 100000 in
theorem turn_any (B t g n cap : Nat) (T : Nat → Nat → Int) (f : Int → Nat → Int) (b h : Int) (c : Nat) (w : World) (b0 : 0 ≤ b) (b1 : b ≤ 4294967295) (hc : c ≤ 32) (hT : Tr w B t g n cap T) (hI : TreeIs T n f) (hn : n ≤ 100000) (hB : B ≤ w.heap.size) :
    Calls Try.prog 35 #[.pointer (some ⟨t, 0, none⟩), .agg #[.int .i64 b, .int .i64 (c : Int)], .int .i64 h] w fun e w' => e = .returned (.tuple #[]) ∧ (∃ g' n' cap' T', Tr w' B t g' n' cap' T' ∧ TreeIs T' n' (turnF f b c h) ∧ n' ≤ n + 32) ∧ Below B w w' := by
  have HT := hid_in hT; have HI := hid_in hI
  clear hT hI
  go_enter Try.func35, Try.ntmps35
  go_wp2_with fail
  refine (prefixOf_any b c _).mono ?_
  rintro e w1 ⟨rfl, hb1⟩
  have Z1 := hid_in (below_later (below_box w _) hb1)
  clear hb1
  have S0 : Hid (TS w (w1.alloc (.cells #[.int .i64 b, .int .i64 (c : Int)] 59)) B t w1.heap.size g n cap n T f b c 0 0) := by
    have hb2 := below_later Z1.out (below_box w1 (.cells #[.int .i64 b, .int .i64 (c : Int)] 59))
    exact ⟨HT.out.later hb2, HI.out, rfl, heap_alloc_new w1 _, hb2.mono hB, by omega⟩
  clear HT HI
  go_wp2_with fail
  have sP : w1.heap.size < (w1.alloc (.cells #[.int .i64 b, .int .i64 (c : Int)] 59)).heap.size := by simp
  generalize (w1.alloc (.cells #[.int .i64 b, .int .i64 (c : Int)] 59)) = W0 at *
  generalize w1.heap.size = P at *
  go_loopw [7, 14] (fun iv v wr => ∃ (p i g' n' cap' : Nat) (T' : Nat → Nat → Int), p ≤ c ∧ v = .int .i64 (p : Int) ∧ iv = .int .i64 (i : Int) ∧ Hid (TS w wr B t P g' n' cap' n T' f b c p i)) (fun _ v _ => c - (intOf v).toNat)
  case atStart => exact ⟨0, 0, g, n, cap, T, Nat.zero_le _, rfl, rfl, S0⟩
  case round =>
    obtain ⟨p, i, g1, n1, cap1, T1, hp, rfl, rfl, HS⟩ := hrel
    have q0 : wr.cell? ⟨P, 0, none⟩ = some (.int .i64 b) := by rw [Lib.cell_of_heap HS.out.bx]; rfl
    have q1 : wr.cell? ⟨P, 1, none⟩ = some (.int .i64 (c : Int)) := by rw [Lib.cell_of_heap HS.out.bx]; rfl
    have c0 := HS.out.tr.c0
    have f0 := HS.out.tr.f0
    have ltt := HS.out.tr.lt
    have hi : i < n1 := nd_lt HS.out.is b0 b1 (by omega) HS.out.pth
    have hi' : (i : Int) < (n1 : Int) := by omega
    by_cases hlt : p < c
    · have hd : (p : Int) < (c : Int) := by omega
      obtain ⟨s, hs⟩ : ∃ s, bitN b p = s := ⟨_, rfl⟩
      have hs2 : s < 2 := by rw [← hs]; exact bitN_lt b p
      have hs3 : (s : Int) < 2 := by omega
      have Hs := hid_in hs
      have kc := HS.out.tr.cell i s hi (by omega)
      have kf := HS.out.tr.fz (i * 3 + s)
      obtain ⟨x, hx⟩ : ∃ x, T1 i s = x := ⟨_, rfl⟩
      have kx := kid_lt HS.out.is hi hs2
      rw [hx] at kc kx
      have Hx := hid_in hx
      clear hs hx
      by_cases hx0 : x = 0
      · subst hx0
        go_wp2_with fail
        refine (bit_any b p _ b0 b1 (by omega) s Hs.out).mono ?_
        rintro e w' ⟨rfl, rfl⟩
        go_wp2_with fail
        refine wp_region_lat_tail2 (Below.refl _ _) (by kernel_rfl) (by dsimp only [List.dropLast]) (by dsimp only [List.dropLast]; simp only [List.getLast?_cons_cons, List.getLast?_singleton]; rfl) (by simp only [List.getLast?_cons_cons, List.getLast?_singleton]; rfl) (by kernel_rfl) ?_
        intro hne hcl
        repeat (go_big_quiet_step (fail))
        refine wpQuiet_nil ?_
        intro w7 hb7
        clear hne hcl
        have R7 := hid_in (HS.out.tr.later hb7)
        have bx7 : Hid (w7.heap[P]? = some (.cells #[.int .i64 b, .int .i64 (c : Int)] 59 (0, 0))) := by show _ = _; rw [hb7.block P (Array.getElem?_eq_some_iff.1 HS.out.bx).1]; exact HS.out.bx
        have B7 := hid_in (HS.out.bel.trans (hb7.mono (Nat.le_trans hB HS.out.bel.size)))
        have hBw7 : B ≤ w7.heap.size := Nat.le_trans hB B7.out.size
        have R8 := hid_in (R7.out.set i s hi (by omega) n1)
        have np1 := R7.out.np
        have ln := HS.out.len
        have tb := R7.out.tb
        have tne := R7.out.ne
        have pne : P ≠ g1 := by obtain ⟨cur, h1, _⟩ := owns_blk R7.out.own; exact blk_ne bx7.out h1 (by decide)
        have pnt : P ≠ t := blk_ne bx7.out R7.out.blk (by decide)
        have c07 := R7.out.c0
        have kc7 := R7.out.cell i s hi (by omega)
        have kf7 := R7.out.fz (i * 3 + s)
        have lt7 := R7.out.lt
        have lg7 := R7.out.glt
        have lP7 : P < w7.heap.size := (Array.getElem?_eq_some_iff.1 bx7.out).1
        clear hb7 kc kf c0 f0 q0 q1
        have S8 : (w7.setCell ⟨g1, i * 3 + s, none⟩ (.int .i64 (n1 : Int))).heap.size = w7.heap.size := by simp
        have bx8 : Hid ((w7.setCell ⟨g1, i * 3 + s, none⟩ (.int .i64 (n1 : Int))).heap[P]? = some (.cells #[.int .i64 b, .int .i64 (c : Int)] 59 (0, 0))) := by show _ = _; rw [heap_setCell_other _ _ _ _ (show P ≠ g1 from pne)]; exact bx7.out
        have B8 : Hid (Below B w (w7.setCell ⟨g1, i * 3 + s, none⟩ (.int .i64 (n1 : Int)))) := by show Below _ _ _; exact B7.out.setCell R7.out.gb _
        have c08 := R8.out.c0
        have is8 := hid_in (lnk_is HS.out.is hi hs2 Hx.out)
        have pth8 := hid_in (show nd (lnk T1 i s n1) b (p + 1) = some n1 by have := lnk_path HS.out.is b0 b1 (by omega) HS.out.pth (by rw [Hs.out]; exact Hx.out); rw [Hs.out] at this; exact this)
        have fl8 := hid_in (flat_lnk T1 i s n1)
        have lt9 : lnk T1 i s n1 i s = n1 := lnk_at hi
        have cn := cells_new (w7.setCell ⟨g1, i * 3 + s, none⟩ (.int .i64 (n1 : Int))) [.int .i64 0, .int .i64 0, .int .i64 (-1)] 67
        rw [S8] at cn
        have CN := hid_in cn
        clear R7 B7 bx7 cn
        go_wp2_with (at_builtin; refine wpG elemN rfl (.tmp 50) (.tmp 52) rfl B (.slice (some ⟨g1, 0, none⟩) n1 cap1) n1 (flatC (upd T1 i s n1) 3 n1) rfl (R8.out.own.alloc _) ⟨w7.heap.size, 0, none⟩ 1 1 [.int .i64 0, .int .i64 0, .int .i64 (-1)] rfl rfl CN.out (one3 _ _ _) (by omega) (by simp; omega) ?_; intro v3 w3 o3 g3 n3; obtain ⟨g4, cap4, rfl⟩ := own_form o3 (by omega); have tb3 := (g3.block t (by simp; omega) (by simp [Value.ownBlock]; exact tne)).trans ((heap_alloc_old _ _ (by simp; omega)).trans R8.out.blk); have pb3 := (g3.block P (by simp; omega) (by simp [Value.ownBlock]; exact pne)).trans ((heap_alloc_old _ _ (by simp; omega)).trans bx8.out); have B3 := hid_in ((grown_below g3 (by simp; omega) (fun k hk => by simp [Value.ownBlock] at hk; have := R8.out.gb; omega) : Below B _ w3)); have o4 := hid_in (show w3.ownsRow B 67 3 (.slice (some ⟨g4, 0, none⟩) (n1 + 1) cap4) (n1 + 1) (flatC (lnk T1 i s n1) 3 (n1 + 1)) by rw [fl8.out]; exact o3); have tg := hid_in (Tr.grow (cap := cap4) tb tb3 o4.out (by omega)); have d0 := (of_blk tb3).1; have d1 := (of_blk tb3).2; have kc3 := own_cell o4.out i s (by omega) (by omega); rw [lt9] at kc3; have tn4 := tg.out.2; have pb4 := hid_in pb3; clear o3 g3 n3 tb3 pb3)
        refine ⟨⟨p + 1, n1, g4, n1 + 1, cap4, lnk T1 i s n1, by omega, by simp, rfl, ?_⟩, by simp [intOf]; omega⟩
        show TS _ _ _ _ _ _ _ _ _ _ _ _ _ _ _
        refine ⟨tg.out.1, is8.out, pth8.out, ?_, ?_, by omega⟩
        · rw [heap_setCell_other _ _ _ _ (show P ≠ t from pnt)]; exact pb4.out
        · exact ((B8.out.alloc (by simp; omega) _).trans B3.out).setCell tb _
      · have hx1 : (x == 0) = false := beq_eq_false_iff_ne.2 hx0
        obtain ⟨y, rfl⟩ := Int.eq_ofNat_of_zero_le kx.1
        go_wp2_with fail
        refine (bit_any b p _ b0 b1 (by omega) s Hs.out).mono ?_
        rintro e w' ⟨rfl, rfl⟩
        go_wp2_with fail
        refine ⟨⟨p + 1, y, g1, n1, cap1, T1, by omega, by simp, rfl, ?_⟩, by simp [intOf]; omega⟩
        show TS _ _ _ _ _ _ _ _ _ _ _ _ _ _ _
        refine ⟨HS.out.tr, HS.out.is, ?_, HS.out.bx, HS.out.bel, by have := HS.out.len; omega⟩
        rw [nd_step HS.out.pth, Hs.out, Hx.out, if_neg hx0]
        congr 1
    · have hd : decide ((p : Int) < (c : Int)) = false := by simp; omega
      obtain rfl : p = c := by omega
      have kc := HS.out.tr.cell i 2 hi (by omega)
      have kf := HS.out.tr.fz (i * 3 + 2)
      go_wp2_with fail
      go_end0
      refine ⟨rfl, ⟨g1, n1, cap1, _, HS.out.tr.set i 2 hi (by omega) h, turn_is HS.out.is b0 b1 hc HS.out.pth, ?_⟩, ?_⟩
      · have := HS.out.len; omega
      · exact HS.out.bel.setCell HS.out.tr.gb _
end Go.Proofs.Ytajkaaeckmfamaa
