/- Numbers seen one behind the other: what the specification and the program answer. The conditions stand at each theorem. -/
import Derived.Test.YtmkmbbbmelejoaaWinL
namespace Go.Proofs.Ytmkmbbbmelejoaa
open Go.RowKit Go.LatT Go.BlockM Go.OpnT Go.WinMath Go.RegE
set_option linter.unusedVariables false
set_option linter.unusedSimpArgs false
/-- The window behind k numbers. -/
def runS (F : Nat → Int) : Nat → Int × List Int
  | 0 => (0, [])
  | k + 1 => (topL (runS F k).1 (runS F k).2 (F k), listL (runS F k).1 (runS F k).2 (F k))
/-- The codes of k numbers. -/
def runC (F : Nat → Int) (k : Nat) : List Int := (List.range k).map fun i => codeL (runS F i).1 (runS F i).2 (F i)
theorem runC_len (F : Nat → Int) (k : Nat) : (runC F k).length = k := by simp [runC]
theorem runC_succ (F : Nat → Int) (k : Nat) : runC F (k + 1) = runC F k ++ [codeL (runS F k).1 (runS F k).2 (F k)] := by simp [runC, List.range_succ]
theorem runS_rep (F : Nat → Int) : ∀ k, ∃ c, Rep (runS F k).1 c (runS F k).2
  | 0 => ⟨0, rep_nil⟩
  | k + 1 => by
    obtain ⟨c, hc⟩ := runS_rep F k
    exact (listL_len hc).2
theorem codeL_range (T n : Int) (L : List Int) : 0 ≤ codeL T L n ∧ codeL T L n ≤ 3 := by
  unfold codeL
  split
  · omega
  · split
    · omega
    · split <;> omega
/-- What the answer is. -/
def runR (L : List Int) : List Int := if 60 < L.length then [] else runC (gE L) L.length
theorem IL.set {w : World} {v u : Value} {L : List Int} {b o : Nat} (h : IL w v L) (hb : v.ownBlock ≠ some b) : IL (w.setCell ⟨b, o, none⟩ u) v L := by
  obtain ⟨a, cap, e, hc, h⟩ := h
  refine ⟨a, cap, e, hc, ?_⟩
  rcases h with h | ⟨bb, off, e2, hlt, hcc⟩
  · exact .inl h
  · refine .inr ⟨bb, off, e2, by simpa using hlt, fun i hi => ?_⟩
    have hne : bb ≠ b := by rintro rfl; exact hb (by rw [e, e2]; rfl)
    rw [← hcc i hi]
    unfold World.cell?
    rw [Below.heap_setCell _ _ _ _ hne]
theorem IL.grown {w w' : World} {v : Value} {L : List Int} {row : Option Nat} (h : IL w v L) (hg : w.grownBy w' row) (hr : v.ownBlock = none ∨ v.ownBlock ≠ row) : IL w' v L := by
  obtain ⟨a, cap, e, hc, h⟩ := h
  refine ⟨a, cap, e, hc, ?_⟩
  rcases h with h | ⟨bb, off, e2, hlt, hcc⟩
  · exact .inl h
  · have hne : row ≠ some bb := by
      rcases hr with hr | hr
      · rw [e, e2] at hr; simp [Value.ownBlock] at hr
      · intro h2; exact hr (by rw [e, e2, h2]; rfl)
    exact .inr ⟨bb, off, e2, Nat.lt_of_lt_of_le hlt hg.size, fun i hi => by rw [(grown_cells hg bb _ hlt hne).1]; exact hcc i hi⟩
theorem wput_get {w : World} {g : Nat} {ob : Obj} (h : g < w.heap.size) : (wput w g ob).heap[g]? = some ob := by
  unfold wput
  simp [h]
theorem below_set {B b o : Nat} {w w' : World} {u : Value} (h : Below B w w') (hb : B ≤ b) : Below B w (w'.setCell ⟨b, o, none⟩ u) := h.setCell hb u
theorem IL.one2 {w : World} {x : Int} {t : TypeId} {b : Nat} (hb : b = w.heap.size) : IL (w.alloc (.cells #[.int .i64 x] t)) (.slice (some ⟨b, 0, none⟩) 1 1) [x] := by rw [hb]; exact IL.one w x t
theorem cutP {P Q : Prop} (h : P) (k : P → Q) : Q := k h
theorem ybox {wr w1 : World} {x0 x1 : Value} {t : TypeId} (hx : Below (wr.alloc (.cells #[x0, x1] t)).heap.size (wr.alloc (.cells #[x0, x1] t)) w1) : w1.heap[wr.heap.size]? = some (.cells #[x0, x1] t) := by
  rw [hx.block _ (by simp)]
  exact heap_new _ _ _ rfl
theorem ybox_drew {wr w1 : World} {x0 x1 : Value} {t : TypeId} (hx : Below (wr.alloc (.cells #[x0, x1] t)).drew.heap.size (wr.alloc (.cells #[x0, x1] t)).drew w1) : w1.heap[wr.heap.size]? = some (.cells #[x0, x1] t) := by
  rw [hx.block _ (by show _ < (wr.alloc _).heap.size; simp)]
  exact heap_new wr _ _ rfl
theorem ybox_drew2 {wr w1 : World} {x0 x1 : Value} {t : TypeId} (hx : Below (wr.alloc (.cells #[x0, x1] t)).drew.drew.heap.size (wr.alloc (.cells #[x0, x1] t)).drew.drew w1) : w1.heap[wr.heap.size]? = some (.cells #[x0, x1] t) := by
  rw [hx.block _ (by show _ < (wr.alloc _).heap.size; simp)]
  exact heap_new wr _ _ rfl
theorem owns_set2 {w : World} {base n size b o : Nat} {e : TypeId} {v u : Value} {xs : List Value} (h : w.ownsRow base e size v n xs) (hb : v.ownBlock ≠ some b) : (w.setCell ⟨b, o, none⟩ u).ownsRow base e size v n xs := by
  obtain ⟨h1, h2⟩ := h
  refine ⟨h1, ?_⟩
  rcases h2 with h2 | ⟨g, cap, cur, e1, e2, e3, e4, e5, e6, e7⟩
  · exact .inl h2
  · have hne : g ≠ b := by rintro rfl; exact hb (by rw [e1]; rfl)
    exact .inr ⟨g, cap, cur, e1, e2, by rw [Below.heap_setCell _ _ _ _ hne]; exact e3, e4, e5, e6, e7⟩
/-- What holds of the specification's run behind k numbers. -/
def RI (w : World) (F : Nat → Int) (B k : Nat) (vo : Value) (wr : World) : Prop :=
  Below w.heap.size w wr ∧ vo.ownBlock ≠ some B ∧ wr.ownsRow w.heap.size 3 1 vo k (i64s (runC F k)) ∧
    ∃ vk, wr.heap[B]? = some (.cells #[.int .i64 (runS F k).1, vk] 25) ∧ IL wr vk (runS F k).2
set_option maxHeartbeats 2000000 in
set_option maxRecDepth 100000 in
theorem windowRunS (v : Value) (L : List Int) (w : World) (hL : IL w v L) (hl : L.length ≤ 1048576) :
    Calls Try.prog 14 #[v] w fun e w' => ∃ v', e = .returned v' ∧ w'.ownsRow w.heap.size 3 1 v' (runR L).length (i64s (runR L)) ∧ Below w.heap.size w w' := by
  have HL := hid_in hL
  obtain ⟨a, cap, rfl, hI⟩ := hL.ints
  have HI := hid_in hI
  clear hL hI
  by_cases h60 : 60 < L.length
  · have hd : decide ((L.length : Int) ≤ 60) = false := by simp; omega
    have hd2 : decide ((0 : Int) < (L.length : Int)) = true := by simp; omega
    go_enter Try.func14, Try.ntmps14
    go_wp2_with fail
    refine wp_loop_rounds 1 ?_
    rw [rounds_succ]
    go_wp2_with fail
    go_ret
    refine ⟨_, rfl, ?_, by go_grown⟩
    unfold runR
    rw [if_pos h60]
    exact (owns_nil_lit 3 (Nat.le_refl _)).alloc _
  · have hd : decide ((L.length : Int) ≤ 60) = true := by simp; omega
    go_enter Try.func14, Try.ntmps14
    go_wp2_with fail
    have WO : ((w.alloc (Obj.cells #[] 3)).alloc (Obj.cells #[.int .i64 0, .slice none 0 0] 25)).ownsRow w.heap.size 3 1 (.slice (some ⟨w.heap.size, 0, none⟩) 0 0) 0 (i64s (runC (gE L) 0)) := (owns_nil_lit 3 (Nat.le_refl _)).alloc _
    have WH : ((w.alloc (Obj.cells #[] 3)).alloc (Obj.cells #[.int .i64 0, .slice none 0 0] 25)).heap[w.heap.size + 1]? = some (.cells #[.int .i64 (runS (gE L) 0).1, .slice none 0 0] 25) := heap_new _ _ _ (by simp)
    have zW : Below w.heap.size w ((w.alloc (Obj.cells #[] 3)).alloc (Obj.cells #[.int .i64 0, .slice none 0 0] 25)) := by go_grown
    have sW : ((w.alloc (Obj.cells #[] 3)).alloc (Obj.cells #[.int .i64 0, .slice none 0 0] 25)).heap.size = w.heap.size + 1 + 1 := by simp
    have Wc0 : ((w.alloc (Obj.cells #[] 3)).alloc (Obj.cells #[.int .i64 0, .slice none 0 0] 25)).cell? ⟨w.heap.size + 1, 0, none⟩ = some (.int .i64 0) := by go_simp
    have Wc1 : ((w.alloc (Obj.cells #[] 3)).alloc (Obj.cells #[.int .i64 0, .slice none 0 0] 25)).cell? ⟨w.heap.size + 1, 1, none⟩ = some (.slice none 0 0) := by go_simp
    have Wf0 : ((w.alloc (Obj.cells #[] 3)).alloc (Obj.cells #[.int .i64 0, .slice none 0 0] 25)).frozen? ⟨w.heap.size + 1, 0, none⟩ = false := by go_simp
    have Wf1 : ((w.alloc (Obj.cells #[] 3)).alloc (Obj.cells #[.int .i64 0, .slice none 0 0] 25)).frozen? ⟨w.heap.size + 1, 1, none⟩ = false := by go_simp
    generalize ((w.alloc (Obj.cells #[] 3)).alloc (Obj.cells #[.int .i64 0, .slice none 0 0] 25)) = W at *
    have I0 : Hid (RI w (gE L) (w.heap.size + 1) 0 (.slice (some ⟨w.heap.size, 0, none⟩) 0 0) W) := by
      show RI _ _ _ _ _ _
      exact ⟨zW, fun h => by have h2 : w.heap.size = w.heap.size + 1 := Option.some.inj h; omega, WO, _, WH, ⟨none, 0, rfl, Nat.le_refl _, .inl ⟨rfl, rfl⟩⟩⟩
    clear Wc0 Wc1 Wf0 Wf1 WO WH zW
    go_loopw [3, 5] (fun vo u wr => ∃ k : Nat, k ≤ L.length ∧ u = .int .i64 (k : Int) ∧ Hid (RI w (gE L) (w.heap.size + 1) k vo wr)) (fun _ u _ => L.length - (intOf u).toNat)
    case atStart => exact ⟨0, Nat.zero_le _, rfl, I0⟩
    case round =>
      obtain ⟨k, hk, rfl, HW⟩ := hrel
      obtain ⟨hZ, hne, io, vk, hB, hI⟩ := HW.out
      obtain ⟨a5, c5, rfl⟩ := owns_form io
      have IO := hid_in io; have IK := hid_in hI; have HZ := hid_in hZ; have HNE := hid_in hne; have HB := hid_in hB
      obtain ⟨rc, hrc⟩ := runS_rep (gE L) k
      have REP := hid_in hrc
      have hBl : w.heap.size + 1 < wr.heap.size := (Array.getElem?_eq_some_iff.1 hB).1
      clear hZ hne io hI hrc
      by_cases hlt : k < L.length
      · have hd2 : decide ((k : Int) < (L.length : Int)) = true := by simp; omega
        have hd3 : (k : Int) < (L.length : Int) := by omega
        obtain ⟨bb, off, rfl, hb1, hb2⟩ := HI.out.resolve_left (by omega)
        have g0 := ((bcell HZ.out).1 bb (off + k) hb1).trans (hb2 k hlt)
        have hbl : bb < wr.heap.size := by have := HZ.out.size; omega
        obtain ⟨ak, ck, rfl⟩ := IK.out.form
        obtain ⟨q0, q1, f0, f1⟩ := pair_cells hB
        have he1 : ¬ w.heap.size + 1 = wr.heap.size := by omega
        have he3 : ¬ wr.heap.size = w.heap.size + 1 := by omega
        have he4 : ¬ wr.heap.size = bb := by omega
        have he2 : ¬ bb = wr.heap.size := by omega
        clear hB hb2
        go_wp2_with fail
        go_region_held3 (fun w' => w'.cell? ⟨w.heap.size + 1, 0, none⟩ = some (.int .i64 (runS (gE L) k).1) ∧ w'.cell? ⟨w.heap.size + 1, 1, none⟩ = some (.slice ak (runS (gE L) k).2.length ck) ∧ w'.cell? ⟨bb, off + k, none⟩ = some (.int .i64 (gE L k))) (go_keep) (first | (go_at_call 22; refine (l7See_any _ _ rc _ _ _ (by first | exact IK.out | exact IK.out.later (by go_grown)) REP.out).mono ?_; rintro e w1 ⟨v1, m1, rfl, o1, hx1⟩; have hy1 : Below wr.heap.size wr w1 := below_later (by go_grown) hx1; obtain ⟨a1, c1, e1⟩ := owns_form o1; subst e1; have q0 := ((bcell hy1).1 _ _ hBl).trans q0; have q1 := ((bcell hy1).1 _ _ hBl).trans q1; have f0 := ((bcell hy1).2 _ 0 hBl).trans f0; have f1 := ((bcell hy1).2 _ 1 hBl).trans f1; have g0 := ((bcell hy1).1 _ _ hbl).trans g0; (first | (refine cutP (ybox hx1) ?_; intro yy; obtain ⟨y0, y1, y2, y3⟩ := pair_cells yy; clear yy) | (refine cutP (ybox_drew hx1) ?_; intro yy; obtain ⟨y0, y1, y2, y3⟩ := pair_cells yy; clear yy) | (refine cutP (ybox_drew2 hx1) ?_; intro yy; obtain ⟨y0, y1, y2, y3⟩ := pair_cells yy; clear yy) | skip); have hz1 : wr.heap.size ≤ w1.heap.size := hy1.size; have hz2 : w.heap.size + 1 < w1.heap.size := Nat.lt_of_lt_of_le hBl hz1; have hz3 : bb < w1.heap.size := Nat.lt_of_lt_of_le hbl hz1; have hz4 : ¬ w.heap.size + 1 = w1.heap.size := Nat.ne_of_lt hz2; have hz5 : ¬ bb = w1.heap.size := Nat.ne_of_lt hz3; have O1 := hid_in o1; have Y1 := hid_in hy1; clear o1 hx1 hy1))
        · have HN1 : Hid (¬ w.heap.size + 1 = w1.heap.size) := hz4
          have H2 : Hid ((w1.alloc (Obj.cells #[(.int .i64 (topL (runS (gE L) k).1 (runS (gE L) k).2 (gE L k))), (.slice a1 m1 c1)] 25)).heap[w.heap.size + 1]? = some (.cells #[.int .i64 (runS (gE L) k).1, .slice ak (runS (gE L) k).2.length ck] 25)) := by
            show _ = _
            rw [(below_box w1 _).block _ hz2, Y1.out.block _ hBl]; exact HB.out
          have OW2 := hid_in (owns_below (owns_below IO.out Y1.out) (below_box w1 (Obj.cells #[(.int .i64 (topL (runS (gE L) k).1 (runS (gE L) k).2 (gE L k))), (.slice a1 m1 c1)] 25)))
          have IL2 := hid_in ((IL.of_owns O1.out (owns_len O1.out)).later (below_box w1 (Obj.cells #[(.int .i64 (topL (runS (gE L) k).1 (runS (gE L) k).2 (gE L k))), (.slice a1 m1 c1)] 25)))
          have Z2 := hid_in (below_later (below_later HZ.out Y1.out) (below_box w1 (Obj.cells #[(.int .i64 (topL (runS (gE L) k).1 (runS (gE L) k).2 (gE L k))), (.slice a1 m1 c1)] 25)))
          have HL2 : Hid (w.heap.size + 1 < (w1.alloc (Obj.cells #[(.int .i64 (topL (runS (gE L) k).1 (runS (gE L) k).2 (gE L k))), (.slice a1 m1 c1)] 25)).heap.size) := by show _ < _; rw [heapSize1]; omega
          have bx0 : (w1.alloc (Obj.cells #[(.int .i64 (topL (runS (gE L) k).1 (runS (gE L) k).2 (gE L k))), (.slice a1 m1 c1)] 25)).cell? ⟨w1.heap.size, 0, none⟩ = some (.int .i64 (topL (runS (gE L) k).1 (runS (gE L) k).2 (gE L k))) := by go_simp
          have bx1 : (w1.alloc (Obj.cells #[(.int .i64 (topL (runS (gE L) k).1 (runS (gE L) k).2 (gE L k))), (.slice a1 m1 c1)] 25)).cell? ⟨w1.heap.size, 1, none⟩ = some (.slice a1 m1 c1) := by go_simp
          have hnb : ∀ j, (Value.slice a1 m1 c1).ownBlock = some j → wr.heap.size ≤ j := fun j hj => (owns_own O1.out j hj).1
          have NB1 : Hid ((Value.slice a1 m1 c1).ownBlock ≠ some (w.heap.size + 1)) := fun e => by have := hnb _ e; omega
          have NB2 : Hid ((Value.slice a1 m1 c1).ownBlock = none ∨ (Value.slice a1 m1 c1).ownBlock ≠ (Value.slice a5 k c5).ownBlock) := by
            show _ ∨ _
            cases e : (Value.slice a1 m1 c1).ownBlock with
            | none => exact .inl rfl
            | some j => exact .inr (fun e2 => by have := hnb j e; have := (owns_own IO.out j e2.symm).2; omega)
          clear q0 q1 f0 f1 g0 hnb
          generalize (w1.alloc (Obj.cells #[(.int .i64 (topL (runS (gE L) k).1 (runS (gE L) k).2 (gE L k))), (.slice a1 m1 c1)] 25)) = X2 at *
          generalize w1.heap.size = bx at *
          have ne1 : ¬ w.heap.size + 1 = bx := HN1.out
          have lx2 : w.heap.size + 1 < X2.heap.size := HL2.out
          have qq := pair_cells H2.out
          obtain ⟨q0, q1, f0, f1⟩ := qq
          have X3B : Hid (((X2.setCell ⟨w.heap.size + 1, 0, none⟩ (.int .i64 (topL (runS (gE L) k).1 (runS (gE L) k).2 (gE L k)))).setCell ⟨w.heap.size + 1, 1, none⟩ (.slice a1 m1 c1)).heap[w.heap.size + 1]? = some (.cells #[(.int .i64 (topL (runS (gE L) k).1 (runS (gE L) k).2 (gE L k))), (.slice a1 m1 c1)] 25)) := by
            show _ = _
            rw [set_pair _ _ H2.out]
            exact wput_get lx2
          have OWN3 := hid_in (owns_set2 (o := 1) (u := (.slice a1 m1 c1)) (owns_set2 (o := 0) (u := (.int .i64 (topL (runS (gE L) k).1 (runS (gE L) k).2 (gE L k)))) OW2.out HNE.out) HNE.out)
          have IL3 := hid_in (((IL2.out.set (o := 0) (u := (.int .i64 (topL (runS (gE L) k).1 (runS (gE L) k).2 (gE L k)))) NB1.out).set (o := 1) (u := (.slice a1 m1 c1)) NB1.out))
          have Z3 := hid_in (below_set (b := w.heap.size + 1) (o := 1) (u := (.slice a1 m1 c1)) (below_set (b := w.heap.size + 1) (o := 0) (u := (.int .i64 (topL (runS (gE L) k).1 (runS (gE L) k).2 (gE L k)))) Z2.out (by omega)) (by omega))
          go_wp2_with (at_builtin; refine wpI_append rfl (.tmp 31) (.tmp 33) rfl w.heap.size (.slice a5 k c5) k _ rfl (OWN3.out.alloc _) _ [codeL (runS (gE L) k).1 (runS (gE L) k).2 (gE L k)] rfl (IL.one2 (by simp)) (by simp; omega) (by have := Z3.out.size; rw [heapSize1]; omega) ?_; intro v6 w6 o6 g6 n6)
          refine ⟨⟨k + 1, by omega, by simp, ?_⟩, by simp [intOf]; omega⟩
          show RI _ _ _ _ _ _
          have hB6 : w6.heap[w.heap.size + 1]? = some (.cells #[(.int .i64 (topL (runS (gE L) k).1 (runS (gE L) k).2 (gE L k))), (.slice a1 m1 c1)] 25) := by
            rw [g6.block (w.heap.size + 1) (by rw [heapSize1]; have := Z3.out.size; simp; omega) (fun e => HNE.out e.symm), (below_box _ _).block (w.heap.size + 1) (by simp; omega)]
            exact X3B.out
          refine ⟨Below.grown (below_later Z3.out (below_box _ _)) g6 (by rw [heapSize1]; have := Z3.out.size; omega) (fun g hg => (owns_own IO.out g hg).1), ?_, by rw [runC_succ]; exact o6, _, hB6, ?_⟩
          · intro e6
            rcases o6.2 with ⟨rfl, _⟩ | ⟨g, cc, cur, rfl, _, h3, _⟩
            · cases e6
            · have e7 : g = w.heap.size + 1 := Option.some.inj e6
              rw [e7, hB6] at h3
              simp at h3
          · exact IL.grown (IL3.out.later (below_box _ _)) g6 NB2.out
        · have HN1 : Hid (¬ w.heap.size + 1 = wr.heap.size) := he1
          have hnb : ∀ j, (Value.slice a1 m1 c1).ownBlock = some j → wr.heap.size + 1 ≤ j := fun j hj => by
            have h := (owns_own O1.out j hj).1
            first | exact h | (have h2 : (wr.alloc (Obj.cells #[.int .i64 0, .slice none 0 0] 25)).heap.size ≤ j := h; rw [heapSize1] at h2; exact h2)
          have NB0 : (Value.slice a1 m1 c1).ownBlock ≠ some wr.heap.size := fun e => by have := hnb _ e; omega
          have NO0 : (Value.slice a5 k c5).ownBlock ≠ some wr.heap.size := fun e => by have := (owns_own IO.out _ e).2; omega
          have NB1 : Hid ((Value.slice a1 m1 c1).ownBlock ≠ some (w.heap.size + 1)) := fun e => by have := hnb _ e; omega
          have NB2 : Hid ((Value.slice a1 m1 c1).ownBlock = none ∨ (Value.slice a1 m1 c1).ownBlock ≠ (Value.slice a5 k c5).ownBlock) := by
            show _ ∨ _
            cases e : (Value.slice a1 m1 c1).ownBlock with
            | none => exact .inl rfl
            | some j => exact .inr (fun e2 => by have := hnb j e; have := (owns_own IO.out j e2.symm).2; omega)
          have H2 : Hid (((w1.setCell ⟨wr.heap.size, 0, none⟩ (.int .i64 (topL (runS (gE L) k).1 (runS (gE L) k).2 (gE L k)))).setCell ⟨wr.heap.size, 1, none⟩ (.slice a1 m1 c1)).heap[w.heap.size + 1]? = some (.cells #[.int .i64 (runS (gE L) k).1, .slice ak (runS (gE L) k).2.length ck] 25)) := by
            show _ = _
            rw [Below.heap_setCell _ _ _ _ he1, Below.heap_setCell _ _ _ _ he1, Y1.out.block _ hBl]; exact HB.out
          have OW2 := hid_in (owns_set2 (o := 1) (u := (.slice a1 m1 c1)) (owns_set2 (o := 0) (u := (.int .i64 (topL (runS (gE L) k).1 (runS (gE L) k).2 (gE L k)))) (owns_below IO.out Y1.out) NO0) NO0)
          have IL2 := hid_in (((IL.of_owns O1.out (owns_len O1.out)).set (o := 0) (u := (.int .i64 (topL (runS (gE L) k).1 (runS (gE L) k).2 (gE L k)))) NB0).set (o := 1) (u := (.slice a1 m1 c1)) NB0)
          have Z2 := hid_in (below_set (b := wr.heap.size) (o := 1) (u := (.slice a1 m1 c1)) (below_set (b := wr.heap.size) (o := 0) (u := (.int .i64 (topL (runS (gE L) k).1 (runS (gE L) k).2 (gE L k)))) (below_later HZ.out Y1.out) (by omega)) (by omega))
          have HL2 : Hid (w.heap.size + 1 < ((w1.setCell ⟨wr.heap.size, 0, none⟩ (.int .i64 (topL (runS (gE L) k).1 (runS (gE L) k).2 (gE L k)))).setCell ⟨wr.heap.size, 1, none⟩ (.slice a1 m1 c1)).heap.size) := by show _ < _; simp; omega
          have bx0 : ((w1.setCell ⟨wr.heap.size, 0, none⟩ (.int .i64 (topL (runS (gE L) k).1 (runS (gE L) k).2 (gE L k)))).setCell ⟨wr.heap.size, 1, none⟩ (.slice a1 m1 c1)).cell? ⟨wr.heap.size, 0, none⟩ = some (.int .i64 (topL (runS (gE L) k).1 (runS (gE L) k).2 (gE L k))) := by go_simp
          have bx1 : ((w1.setCell ⟨wr.heap.size, 0, none⟩ (.int .i64 (topL (runS (gE L) k).1 (runS (gE L) k).2 (gE L k)))).setCell ⟨wr.heap.size, 1, none⟩ (.slice a1 m1 c1)).cell? ⟨wr.heap.size, 1, none⟩ = some (.slice a1 m1 c1) := by go_simp
          clear q0 q1 f0 f1 g0 hnb y0 y1 y2 y3
          generalize ((w1.setCell ⟨wr.heap.size, 0, none⟩ (.int .i64 (topL (runS (gE L) k).1 (runS (gE L) k).2 (gE L k)))).setCell ⟨wr.heap.size, 1, none⟩ (.slice a1 m1 c1)) = X2 at *
          generalize wr.heap.size = bx at *
          have ne1 : ¬ w.heap.size + 1 = bx := HN1.out
          have lx2 : w.heap.size + 1 < X2.heap.size := HL2.out
          have qq := pair_cells H2.out
          obtain ⟨q0, q1, f0, f1⟩ := qq
          have X3B : Hid (((X2.setCell ⟨w.heap.size + 1, 0, none⟩ (.int .i64 (topL (runS (gE L) k).1 (runS (gE L) k).2 (gE L k)))).setCell ⟨w.heap.size + 1, 1, none⟩ (.slice a1 m1 c1)).heap[w.heap.size + 1]? = some (.cells #[(.int .i64 (topL (runS (gE L) k).1 (runS (gE L) k).2 (gE L k))), (.slice a1 m1 c1)] 25)) := by
            show _ = _
            rw [set_pair _ _ H2.out]
            exact wput_get lx2
          have OWN3 := hid_in (owns_set2 (o := 1) (u := (.slice a1 m1 c1)) (owns_set2 (o := 0) (u := (.int .i64 (topL (runS (gE L) k).1 (runS (gE L) k).2 (gE L k)))) OW2.out HNE.out) HNE.out)
          have IL3 := hid_in (((IL2.out.set (o := 0) (u := (.int .i64 (topL (runS (gE L) k).1 (runS (gE L) k).2 (gE L k)))) NB1.out).set (o := 1) (u := (.slice a1 m1 c1)) NB1.out))
          have Z3 := hid_in (below_set (b := w.heap.size + 1) (o := 1) (u := (.slice a1 m1 c1)) (below_set (b := w.heap.size + 1) (o := 0) (u := (.int .i64 (topL (runS (gE L) k).1 (runS (gE L) k).2 (gE L k)))) Z2.out (by omega)) (by omega))
          go_wp2_with (at_builtin; refine wpI_append rfl (.tmp 31) (.tmp 33) rfl w.heap.size (.slice a5 k c5) k _ rfl (OWN3.out.alloc _) _ [codeL (runS (gE L) k).1 (runS (gE L) k).2 (gE L k)] rfl (IL.one2 (by simp)) (by simp; omega) (by have := Z3.out.size; rw [heapSize1]; omega) ?_; intro v6 w6 o6 g6 n6)
          refine ⟨⟨k + 1, by omega, by simp, ?_⟩, by simp [intOf]; omega⟩
          show RI _ _ _ _ _ _
          have hB6 : w6.heap[w.heap.size + 1]? = some (.cells #[(.int .i64 (topL (runS (gE L) k).1 (runS (gE L) k).2 (gE L k))), (.slice a1 m1 c1)] 25) := by
            rw [g6.block (w.heap.size + 1) (by rw [heapSize1]; have := Z3.out.size; simp; omega) (fun e => HNE.out e.symm), (below_box _ _).block (w.heap.size + 1) (by simp; omega)]
            exact X3B.out
          refine ⟨Below.grown (below_later Z3.out (below_box _ _)) g6 (by rw [heapSize1]; have := Z3.out.size; omega) (fun g hg => (owns_own IO.out g hg).1), ?_, by rw [runC_succ]; exact o6, _, hB6, ?_⟩
          · intro e6
            rcases o6.2 with ⟨rfl, _⟩ | ⟨g, cc, cur, rfl, _, h3, _⟩
            · cases e6
            · have e7 : g = w.heap.size + 1 := Option.some.inj e6
              rw [e7, hB6] at h3
              simp at h3
          · exact IL.grown (IL3.out.later (below_box _ _)) g6 NB2.out
      · have hd2 : decide ((k : Int) < (L.length : Int)) = false := by simp; omega
        have e : k = L.length := by omega
        have HE := hid_in e
        clear e hB
        go_wp2_with fail
        go_ret
        refine ⟨_, rfl, ?_, HZ.out⟩
        unfold runR
        rw [if_neg h60, runC_len, ← HE.out]
        exact IO.out
theorem owns_mv {w w' : World} {R base size n : Nat} {e : TypeId} {v : Value} {xs : List Value} (h : w.ownsRow base e size v n xs) (hm : Mv R w w') (hr : ∀ k, v.ownBlock = some k → k ≠ R) : w'.ownsRow base e size v n xs := by
  have hlt := fun k hk => (owns_own h k hk).2
  obtain ⟨h1, h2⟩ := h
  refine ⟨h1, ?_⟩
  rcases h2 with h2 | ⟨g, cap, cur, e1, e2, e3, e4⟩
  · exact .inl h2
  · exact .inr ⟨g, cap, cur, e1, e2, by rw [hm.block g (hlt g (by rw [e1]; rfl)) (hr g (by rw [e1]; rfl))]; exact e3, e4⟩
/-- What holds of the program's run behind k numbers. -/
def II (w : World) (F : Nat → Int) (k : Nat) (vo : Value) (wr : World) : Prop :=
  Below w.heap.size w wr ∧ w.heap.size + 1 ≤ wr.heap.size ∧ (∃ c, Tr wr w.heap.size (runS F k).1 c ∧ Rep (runS F k).1 c (runS F k).2) ∧ wr.ownsRow (w.heap.size + 1) 3 1 vo k (i64s (runC F k))
set_option maxHeartbeats 2000000 in
set_option maxRecDepth 100000 in
theorem windowRunI (v : Value) (L : List Int) (w : World) (hL : IL w v L) (hl : L.length ≤ 1048576) :
    Calls Try.prog 12 #[v] w fun e w' => ∃ v', e = .returned v' ∧ w'.ownsRow w.heap.size 3 1 v' (runR L).length (i64s (runR L)) ∧ Below w.heap.size w w' := by
  have HL := hid_in hL
  obtain ⟨a, cap, rfl, hI⟩ := hL.ints
  have HI := hid_in hI
  clear hL hI
  by_cases h60 : 60 < L.length
  · have hd : decide ((60 : Int) < (L.length : Int)) = true := by simp; omega
    go_enter Try.func12, Try.ntmps12
    go_wp2_with fail
    go_ret
    exact ⟨_, rfl, by unfold runR; rw [if_pos h60]; exact World.ownsRow_nil _ _ _ _, Below.refl _ _⟩
  · have hd : decide ((60 : Int) < (L.length : Int)) = false := by simp; omega
    go_enter Try.func12, Try.ntmps12
    go_wp2_with fail
    have zW : Below w.heap.size w (w.alloc (Obj.cells #[.int .i64 0, .int .u16 0] 42)) := by go_grown
    have sW : (w.alloc (Obj.cells #[.int .i64 0, .int .u16 0] 42)).heap.size = w.heap.size + 1 := by simp
    have Wc0 : (w.alloc (Obj.cells #[.int .i64 0, .int .u16 0] 42)).cell? ⟨w.heap.size, 0, none⟩ = some (.int .i64 0) := by go_simp
    have Wc1 : (w.alloc (Obj.cells #[.int .i64 0, .int .u16 0] 42)).cell? ⟨w.heap.size, 1, none⟩ = some (.int .u16 0) := by go_simp
    have Wf0 : (w.alloc (Obj.cells #[.int .i64 0, .int .u16 0] 42)).frozen? ⟨w.heap.size, 0, none⟩ = false := by go_simp
    have Wf1 : (w.alloc (Obj.cells #[.int .i64 0, .int .u16 0] 42)).frozen? ⟨w.heap.size, 1, none⟩ = false := by go_simp
    generalize (w.alloc (Obj.cells #[.int .i64 0, .int .u16 0] 42)) = W at *
    have I0 : Hid (II w (gE L) 0 (.slice none 0 0) W) := by
      show II _ _ _ _ _
      exact ⟨zW, by omega, ⟨0, ⟨Wc0, Wc1, Wf0, Wf1⟩, rep_nil⟩, World.ownsRow_nil _ _ _ _⟩
    clear Wc0 Wc1 Wf0 Wf1 zW
    go_loopw [4, 12] (fun vo u wr => ∃ k : Nat, k ≤ L.length ∧ u = .int .i64 (k : Int) ∧ Hid (II w (gE L) k vo wr)) (fun _ u _ => L.length - (intOf u).toNat)
    case atStart => exact ⟨0, Nat.zero_le _, rfl, I0⟩
    case round =>
      obtain ⟨k, hk, rfl, HW⟩ := hrel
      obtain ⟨hZ, hs, ⟨c, hTr, hRep⟩, io⟩ := HW.out
      obtain ⟨a5, c5, rfl⟩ := owns_form io
      have IO := hid_in io; have HZ := hid_in hZ; have TR := hid_in hTr; have REP := hid_in hRep
      clear hZ io hTr hRep
      by_cases hlt : k < L.length
      · have hd2 : decide ((k : Int) < (L.length : Int)) = true := by simp; omega
        have hd3 : (k : Int) < (L.length : Int) := by omega
        obtain ⟨bb, off, rfl, hb1, hb2⟩ := HI.out.resolve_left (by omega)
        have g0 := ((bcell HZ.out).1 bb (off + k) hb1).trans (hb2 k hlt)
        clear hb2
        go_wp2_with fail
        refine (see_any w.heap.size _ (gE L k) c _ _ TR.out REP.out).mono ?_
        rintro e w1 ⟨c', rfl, T1, R1, M1, S1⟩
        have OW1 := hid_in (owns_mv IO.out M1 (fun j hj => by have := (owns_own IO.out j hj).1; omega))
        have Z1 := hid_in (HZ.out.trans (M1.below (by omega) (Nat.le_refl _)))
        have TT := hid_in T1; have RR := hid_in R1
        have hne : Hid ((Value.slice a5 k c5).ownBlock ≠ some w.heap.size) := by
          show _ ≠ _
          intro h; have := (owns_own IO.out _ h).1; omega
        have hs1 : w.heap.size + 1 ≤ w1.heap.size := by omega
        clear T1 R1 M1 S1 g0
        go_wp2_with (at_builtin; refine wpI_append rfl (.tmp 16) (.tmp 19) rfl (w.heap.size + 1) (.slice a5 k c5) k _ rfl (OW1.out.alloc _) _ [codeL (runS (gE L) k).1 (runS (gE L) k).2 (gE L k)] rfl (IL.one2 (by simp)) (by simp; omega) (by rw [heapSize1]; omega) ?_; intro v6 w6 o6 g6 n6)
        refine ⟨⟨k + 1, by omega, by simp, ?_⟩, by simp [intOf]; omega⟩
        show II _ _ _ _ _
        refine ⟨Below.grown (below_later Z1.out (below_box _ _)) g6 (by rw [heapSize1]; omega) (fun g hg => by have := (owns_own OW1.out g hg).1; omega), ?_, ⟨c', ?_, RR.out⟩, by rw [runC_succ]; exact o6⟩
        · have := g6.size; rw [heapSize1] at this; omega
        · have key := fun o => grown_cells g6 w.heap.size o (by rw [heapSize1]; omega) hne.out
          have key2 := bcell (below_box w1 (Obj.cells #[.int .i64 (codeL (runS (gE L) k).1 (runS (gE L) k).2 (gE L k))] 3))
          exact ⟨(key 0).1.trans ((key2.1 _ _ (by omega)).trans TT.out.c0), (key 1).1.trans ((key2.1 _ _ (by omega)).trans TT.out.c1), (key 0).2.trans ((key2.2 _ _ (by omega)).trans TT.out.f0), (key 1).2.trans ((key2.2 _ _ (by omega)).trans TT.out.f1)⟩
      · have hd2 : decide ((k : Int) < (L.length : Int)) = false := by simp; omega
        have e : k = L.length := by omega
        have HE := hid_in e
        clear e
        go_wp2_with fail
        go_ret
        refine ⟨_, rfl, ?_, HZ.out⟩
        unfold runR
        rw [if_neg h60, runC_len, ← HE.out]
        exact owns_base IO.out (by omega)
end Go.Proofs.Ytmkmbbbmelejoaa
