/- What is proved: the contracts of WinI, WinJ, WinK, MrkA, WinL, one behind the other. The conditions stand at each theorem. -/
import Derived.Test.YtefmmopkikpnhaaGreatDoorUWnB
import Derived.Deep.RegionLaw
import Derived.Test.YtefmmopkikpnhaaGreatDoorUWin
namespace Go.Proofs.YtefmmopkikpnhaaGreatDoor
open Go.RowKit Go.LatT Go.BlockM Go.OpnT Go.WinMath
set_option linter.unusedVariables false
set_option linter.unusedSimpArgs false
/-- What holds of a list that is cut while it is read: behind k of it. -/
def SI (B : Nat) (w4 : World) (M : Int) (A : List Int) (k : Nat) (wr : World) : Prop :=
  Mv B w4 wr ∧ wr.cell? ⟨B, 0, none⟩ = some (.int .i64 M) ∧ wr.frozen? ⟨B, 0, none⟩ = false ∧ wr.frozen? ⟨B, 1, none⟩ = false ∧
    ∃ vs m, wr.cell? ⟨B, 1, none⟩ = some vs ∧ wr.ownsRow w4.heap.size 3 1 vs m (i64s ((A.take k).filter fun x => decide (M - 16 < x)))
theorem SeeL.fine {T n M : Int} {L : List Int} {w w' : World} {v' : Value} {m : Nat} (hn : inB n 1 1000000 = true) (ho : T - 16 < n) (hm : n ∉ L) (hM : (if T < n then n else T) = M)
    (hown : w'.ownsRow w.heap.size 3 1 v' m (i64s ((ins n L).filter fun x => decide (M - 16 < x)))) (hb : Below w.heap.size w w') : SeeL T n L w (.returned (.tuple #[.agg #[.int .i64 M, v'], .int .i64 0])) w' := by
  have hc : codeL T L n = 0 := by
    unfold codeL
    rw [if_neg (by simp [inB] at hn; omega), if_neg (by omega), if_neg hm]
  have ht : topL T L n = M := by
    unfold topL
    rw [hc, ← hM]
    simp
  exact ⟨v', m, by rw [hc, ht], by unfold listL; rw [if_pos hc, ht]; exact hown, hb⟩
end Go.Proofs.YtefmmopkikpnhaaGreatDoor

namespace Go.Proofs.YtefmmopkikpnhaaGreatDoor
open Go.RowKit Go.LatT Go.BlockM Go.OpnT Go.WinMath
set_option linter.unusedVariables false
set_option linter.unusedSimpArgs false
end Go.Proofs.YtefmmopkikpnhaaGreatDoor

namespace Go.Proofs.YtefmmopkikpnhaaGreatDoor
open Go.RowKit Go.LatT Go.BlockM Go.OpnT Go.WinMath
set_option linter.unusedVariables false
set_option linter.unusedSimpArgs false
theorem wok_rep {t : Int} {len : Nat} {E : Nat → Int} (h : WOk t len E) : ∃ c, Rep t c (LE E len) := by
  obtain ⟨h1, h2⟩ := wok_good h
  have key : ∀ k, k ≤ len → ∃ c, Rep (topK E k) c (seenK E k) := by
    intro k
    induction k with
    | zero => exact fun _ => ⟨0, rep_nil⟩
    | succ k ih =>
      intro hk
      obtain ⟨c, hc⟩ := ih (by omega)
      have hg := fun i (hi : i < k) => h1 i (by omega)
      have h0 := topK_nonneg hg
      have hr := hc
      obtain ⟨g1, g2, g3⟩ := h1 k (by omega)
      obtain ⟨x1, x2⟩ := code_good hg hc (h1 k (by omega))
      obtain ⟨y1, _, _⟩ := rep_see (n := E k) hc (by omega) g3 (by omega) (fun hm => by have := hr.mem _ hm; omega)
      rw [x2] at y1
      exact ⟨_, y1⟩
  obtain ⟨c, hc⟩ := key len (Nat.le_refl _)
  rw [h2, wok_seen h] at hc
  exact ⟨c, hc⟩
/-- The numbers of a list, by their places. -/
def gE (L : List Int) : Nat → Int := fun i => L.getD i 0
theorem LE_gE (L : List Int) : LE (gE L) L.length = L := by
  apply List.ext_getElem
  · simp [LE]
  · intro i h1 h2
    simp [LE, gE, h2]
theorem IL.ints {w : World} {v : Value} {L : List Int} (h : IL w v L) : ∃ a cap, v = .slice a L.length cap ∧ Ints w a L.length (gE L) := by
  obtain ⟨a, cap, e, hc, h⟩ := h
  refine ⟨a, cap, e, ?_⟩
  rcases h with ⟨rfl, rfl⟩ | ⟨bb, off, e, hlt, hc⟩
  · exact .inl (by omega)
  · exact .inr ⟨bb, off, e, hlt, hc⟩
/-- The answer to a window and a number. -/
def Res (t n : Int) (L : List Int) (T' : Int) (L' : List Int) (k' : Int) : Prop :=
  (¬ WOk t L.length (gE L) ∧ T' = 0 ∧ L' = [] ∧ k' = 1) ∨ (WOk t L.length (gE L) ∧ T' = topL t L n ∧ L' = listL t L n ∧ k' = codeL t L n)
theorem Res.same {t n T1 k1 T2 k2 : Int} {L L1 L2 : List Int} (h1 : Res t n L T1 L1 k1) (h2 : Res t n L T2 L2 k2) : T1 = T2 ∧ L1 = L2 ∧ k1 = k2 := by
  rcases h1 with ⟨a, rfl, rfl, rfl⟩ | ⟨a, rfl, rfl, rfl⟩ <;> rcases h2 with ⟨b, rfl, rfl, rfl⟩ | ⟨b, rfl, rfl, rfl⟩
  · exact ⟨rfl, rfl, rfl⟩
  · exact absurd b a
  · exact absurd a b
  · exact ⟨rfl, rfl, rfl⟩
theorem listL_len {T n : Int} {c : Nat} {L : List Int} (h : Rep T c L) : (listL T L n).length ≤ 16 ∧ ∃ c', Rep (topL T L n) c' (listL T L n) := by
  have key : ∃ c', Rep (topL T L n) c' (listL T L n) := by
    by_cases hc : codeL T L n = 0
    · have hc2 := hc
      unfold codeL at hc2
      split at hc2
      · simp at hc2
      · split at hc2
        · simp at hc2
        · split at hc2
          · simp at hc2
          · rename_i a b d
            obtain ⟨y, _, _⟩ := rep_see h (by omega) (by omega) (by omega) d
            exact ⟨_, y⟩
    · refine ⟨c, ?_⟩
      unfold topL listL
      rw [if_neg (fun h => hc h.1), if_neg hc]
      exact h
  obtain ⟨c', h'⟩ := key
  exact ⟨repW_len h', c', h'⟩
end Go.Proofs.YtefmmopkikpnhaaGreatDoor

namespace Go.Proofs.YtefmmopkikpnhaaGreatDoor
open Go.RowKit Go.LatT Go.BlockM Go.OpnT Go.WinMath
set_option linter.unusedVariables false
set_option linter.unusedSimpArgs false
/-- Numbers that count on. -/
def upFrom (k : Int) (n : Nat) : List Int := (List.range n).map fun i : Nat => k + (i : Int)
theorem upFrom_len (k : Int) (n : Nat) : (upFrom k n).length = n := by simp [upFrom]
theorem upFrom_succ (k : Int) (n : Nat) : upFrom k (n + 1) = upFrom k n ++ [k + (n : Int)] := by simp [upFrom, List.range_succ]
theorem upFrom_get (k : Int) (n i : Nat) (h : i < n) : (upFrom k n).getD i 0 = k + (i : Int) := by simp [upFrom, h]
theorem mark_step (k : Int) (L : List Int) (i : Nat) (hi : i < L.length) : (i64s (upFrom k i ++ L.drop i)).set i (.int .i64 (k + (i : Int))) = i64s (upFrom k (i + 1) ++ L.drop (i + 1)) := by
  rw [List.drop_eq_getElem_cons hi, upFrom_succ]
  have h := upFrom_len k i
  simp only [i64s, List.map_append, List.map_cons, List.append_assoc, List.singleton_append]
  rw [List.set_append_right _ _ (by rw [List.length_map, h]; exact Nat.le_refl _)]
  simp [h]
theorem IRow.owns {w : World} {b n base : Nat} {E : Nat → Int} (h : IRow w b n E) (hb : base ≤ b) (hn : n ≤ maxLen) : w.ownsRow base 3 1 (.slice (some ⟨b, 0, none⟩) n n) n (i64s (LE E n)) := by
  obtain ⟨c, h1, h2, h3⟩ := h
  refine ⟨by simp [i64s, LE], .inr ⟨b, n, c, rfl, hb, h1, Nat.le_refl _, hn, by omega, ?_⟩⟩
  have hl : c.toList.length = n := by simpa using h2
  rw [Nat.mul_one, List.take_of_length_le (by omega)]
  apply List.ext_getElem?
  intro i
  by_cases hi : i < n
  · rw [show c.toList[i]? = c[i]? by simp, h3 i hi]
    simp [i64s, LE, hi]
  · rw [List.getElem?_eq_none (by omega), List.getElem?_eq_none (by simp [i64s, LE]; omega)]
set_option maxHeartbeats 2000000 in
set_option maxRecDepth 100000 in
theorem mark_any (base : Nat) (v : Value) (L : List Int) (k : Int) (w : World) (ho : w.ownsRow base 3 1 v L.length (i64s L)) (hl : L.length ≤ 1048576) (h0 : 0 ≤ k) (h1 : k ≤ 1048576) :
    Calls Tryz.prog 120 #[v, .int .i64 k] w fun e w' => e = .returned (.int .i64 (k + L.length)) ∧ w'.ownsRow base 3 1 v L.length (i64s (upFrom k L.length)) ∧ w.grownBy w' v.ownBlock := by
  by_cases hv : v = .slice none 0 0
  · have hz : L.length = 0 := by
      subst hv
      rcases ho.2 with ⟨_, h⟩ | ⟨_, _, _, h, _⟩
      · exact h
      · simp at h
    obtain rfl : L = [] := List.length_eq_zero_iff.1 hz
    subst hv
    have HO := hid_in ho
    clear ho
    go_enter Tryz.func120, Tryz.ntmps120
    go_wp2_with fail
    refine wp_loop_rounds 1 ?_
    rw [rounds_succ]
    go_wp2_with fail
    go_ret
    exact ⟨by simp, by simpa [upFrom] using HO.out, World.grownBy.refl _ _⟩
  · obtain ⟨g, cap, rfl, e1, e2, e3, e4, e5⟩ := owns_some ho hv
    have HO := hid_in ho
    clear ho e5
    go_enter Tryz.func120, Tryz.ntmps120
    go_wp2_with fail
    go_loopw [1, 5] (fun u1 u2 wr => ∃ i : Nat, i ≤ L.length ∧ u1 = .int .i64 (k + (i : Int)) ∧ u2 = .int .i64 (i : Int) ∧ Hid (wr.ownsRow base 3 1 (.slice (some ⟨g, 0, none⟩) L.length cap) L.length (i64s (upFrom k i ++ L.drop i)) ∧ w.grownBy wr (some g))) (fun u1 u2 _ => L.length - (intOf u2).toNat)
    case atStart => exact ⟨0, Nat.zero_le _, by simp, rfl, by show _ ∧ _; exact ⟨by simpa [upFrom] using HO.out, World.grownBy.refl _ _⟩⟩
    case round =>
      obtain ⟨i, hi, rfl, rfl, HW⟩ := hrel
      obtain ⟨io, ig⟩ := HW.out
      have hfz := io.frozenAt i
      have hgl : g < wr.heap.size := (owns_own io g rfl).2
      have IO := hid_in io; have IG := hid_in ig
      by_cases hlt : i < L.length
      · have hd : (i : Int) < (L.length : Int) := by omega
        obtain ⟨uu, hc⟩ : ∃ uu, wr.cell? ⟨g, i, none⟩ = some uu := by
          rw [io.cellAt i (by omega)]
          exact ⟨_, List.getElem?_eq_getElem (by rw [i64s_len, List.length_append, upFrom_len, List.length_drop]; omega)⟩
        clear io ig
        go_wp2_with fail
        refine ⟨⟨i + 1, by omega, by simp; omega, by simp, ?_⟩, by simp [intOf]; omega⟩
        show _ ∧ _
        obtain ⟨a1, a2⟩ := IO.out.stored i (.int .i64 (k + (i : Int)))
        rw [mark_step k L i hlt] at a1
        exact ⟨a1, ⟨a2.os.trans IG.out.os, a2.tape.trans IG.out.tape, a2.output.trans IG.out.output, Nat.le_trans IG.out.size a2.size, fun j hj hne => (a2.block j (Nat.lt_of_lt_of_le hj IG.out.size) hne).trans (IG.out.block j hj hne)⟩⟩
      · have hd : decide ((i : Int) < (L.length : Int)) = false := by simp; omega
        have e : i = L.length := by omega
        have HE := hid_in e
        clear io ig e
        go_wp2_with fail
        go_ret
        refine ⟨ret_int (by rw [HE.out]), ?_, IG.out⟩
        have h := IO.out
        rw [HE.out, List.drop_length, List.append_nil] at h
        exact h
set_option maxHeartbeats 2000000 in
set_option maxRecDepth 100000 in
theorem held_any (base : Nat) (v : Value) (n : Nat) (k : Int) (w : World) (ho : w.ownsRow base 3 1 v n (i64s (upFrom k n))) (hl : n ≤ 1048576) (h0 : 0 ≤ k) (h1 : k ≤ 1048576) :
    Calls Tryz.prog 121 #[v, .int .i64 k] w fun e w' => e = .returned (.int .i64 (k + n)) ∧ Below w.heap.size w w' := by
  by_cases hv : v = .slice none 0 0
  · have hz : n = 0 := by
      subst hv
      rcases ho.2 with ⟨_, h⟩ | ⟨_, _, _, h, _⟩
      · exact h
      · simp at h
    subst hv hz
    clear ho
    go_enter Tryz.func121, Tryz.ntmps121
    go_wp2_with fail
    refine wp_loop_rounds 1 ?_
    rw [rounds_succ]
    go_wp2_with fail
    go_ret
    exact ⟨by simp, Below.refl _ _⟩
  · obtain ⟨g, cap, rfl, e1, e2, e3, e4, e5⟩ := owns_some ho hv
    rw [upFrom_len] at e5
    have E5 := hid_in e5
    rw [upFrom_len]
    clear ho e5 hv
    go_enter Tryz.func121, Tryz.ntmps121
    go_wp2_with fail
    go_loopw [1, 5] (fun u1 u2 wr => ∃ i : Nat, i ≤ n ∧ u1 = .int .i64 (k + (i : Int)) ∧ u2 = .int .i64 (i : Int) ∧ Hid (Below w.heap.size w wr)) (fun u1 u2 _ => n - (intOf u2).toNat)
    case atStart => exact ⟨0, Nat.zero_le _, by simp, rfl, by show Below _ _ _; exact Below.refl _ _⟩
    case round =>
      obtain ⟨i, hi, rfl, rfl, HW⟩ := hrel
      by_cases hlt : i < n
      · have hd : (i : Int) < (n : Int) := by omega
        have g0 := ((bcell HW.out).1 g (0 + i) e2).trans (E5.out i hlt)
        rw [Nat.zero_add, upFrom_get k n i hlt] at g0
        go_wp2_with fail
        refine ⟨⟨i + 1, by omega, by simp; omega, by simp, HW⟩, by simp [intOf]; omega⟩
      · have hd : decide ((i : Int) < (n : Int)) = false := by simp; omega
        have e : i = n := by omega
        have HE := hid_in e
        clear e
        go_wp2_with fail
        go_ret
        exact ⟨ret_int (by rw [HE.out]), HW.out⟩
end Go.Proofs.YtefmmopkikpnhaaGreatDoor

namespace Go.Proofs.YtefmmopkikpnhaaGreatDoor
open Go.RowKit Go.LatT Go.BlockM Go.OpnT Go.WinMath
set_option linter.unusedVariables false
set_option linter.unusedSimpArgs false
theorem IRow.il {w : World} {b n : Nat} {E : Nat → Int} (h : IRow w b n E) (hn : n ≤ 1048576) : IL w (.slice (some ⟨b, 0, none⟩) n n) (LE E n) :=
  IL.of_owns (h.owns (Nat.zero_le b) (by unfold maxLen; omega)) (by simp [LE])
theorem Res.len {t n T' k' : Int} {L L' : List Int} (h : Res t n L T' L' k') : L'.length ≤ 16 := by
  rcases h with ⟨_, _, rfl, _⟩ | ⟨hw, _, rfl, _⟩
  · simp
  · obtain ⟨c, hc⟩ := wok_rep hw
    rw [LE_gE] at hc
    exact (listL_len hc).1
theorem WBox.grown {w w' : World} {g : Nat} {t : Int} {v : Value} {row : Option Nat} (h : WBox w g t v) (hg : w.grownBy w' row) (hr : row ≠ some g) : WBox w' g t v :=
  ⟨Nat.lt_of_lt_of_le h.lt hg.size, by rw [(grown_cells hg g 0 h.lt hr).1]; exact h.c0, by rw [(grown_cells hg g 1 h.lt hr).1]; exact h.c1⟩
theorem grown_box {w w' : World} {o : Obj} {row : Option Nat} (hg : (w.alloc o).grownBy w' row) : w.grownBy w' row :=
  ⟨hg.os, hg.tape, hg.output, Nat.le_trans (by simp) hg.size, fun k hk hr => (hg.block k (by simp; omega) hr).trans ((below_box w o).block k hk)⟩
set_option maxHeartbeats 1000000 in
set_option maxRecDepth 100000 in
theorem markW_any (t : Int) (base : Nat) (v : Value) (L : List Int) (k : Int) (w : World) (ho : w.ownsRow base 3 1 v L.length (i64s L)) (hl : L.length ≤ 1048576) (h0 : 0 ≤ k) (h1 : k ≤ 1048576) :
    Calls Tryz.prog 71 #[.agg #[.int .i64 t, v], .int .i64 k] w fun e w' => e = .returned (.int .i64 (k + L.length)) ∧ w'.ownsRow base 3 1 v L.length (i64s (upFrom k L.length)) ∧ w.grownBy w' v.ownBlock := by
  have HO := hid_in ho
  obtain ⟨a, c, rfl⟩ := owns_form ho
  clear ho
  go_enter Tryz.func71, Tryz.ntmps71
  go_wp2_with fail
  refine (mark_any base _ L k _ (HO.out.alloc _) hl h0 h1).mono ?_
  rintro e w1 ⟨rfl, o1, g1⟩
  have O := hid_in o1; have G := hid_in (grown_box g1)
  clear o1 g1
  go_wp2_with fail
  go_ret
  exact ⟨rfl, O.out, G.out⟩
set_option maxHeartbeats 1000000 in
set_option maxRecDepth 100000 in
theorem heldW_any (t : Int) (base : Nat) (v : Value) (n : Nat) (k : Int) (w : World) (ho : w.ownsRow base 3 1 v n (i64s (upFrom k n))) (hl : n ≤ 1048576) (h0 : 0 ≤ k) (h1 : k ≤ 1048576) :
    Calls Tryz.prog 72 #[.agg #[.int .i64 t, v], .int .i64 k] w fun e w' => e = .returned (.int .i64 (k + n)) ∧ Below w.heap.size w w' := by
  have HO := hid_in ho
  obtain ⟨a, c, rfl⟩ := owns_form ho
  have hk : decide (k + (n : Int) < 0) = false := by simp; omega
  clear ho
  go_enter Tryz.func72, Tryz.ntmps72
  go_wp2_with fail
  refine (held_any base _ n k _ (HO.out.alloc _) hl h0 h1).mono ?_
  rintro e w1 ⟨rfl, hb1⟩
  have B := hid_in (below_later (below_box w _) hb1)
  clear hb1
  go_wp2_with fail
  go_ret
  exact ⟨rfl, B.out⟩
/-- What lies where, while the answers are held against each other. -/
structure WSt (w : World) (t T' : Int) (aV sv gv xv : Value) (L' GL XL : List Int) (B D X G b0 b1 b2 : Nat) (x : World) : Prop where
  z : Below w.heap.size w x
  a : WBox x B t aV
  d : WBox x D T' sv
  bx : WBox x X t xv
  g : WBox x G T' gv
  os : x.ownsRow b0 3 1 sv L'.length (i64s L')
  og : x.ownsRow b1 3 1 gv GL.length (i64s GL)
  ox : x.ownsRow b2 3 1 xv XL.length (i64s XL)
theorem WSt.later {w x y : World} {t T' : Int} {aV sv gv xv : Value} {L' GL XL : List Int} {B D X G b0 b1 b2 : Nat} (h : WSt w t T' aV sv gv xv L' GL XL B D X G b0 b1 b2 x) (hb : Below x.heap.size x y) : WSt w t T' aV sv gv xv L' GL XL B D X G b0 b1 b2 y :=
  ⟨below_later h.z hb, h.a.later hb, h.d.later hb, h.bx.later hb, h.g.later hb, owns_below h.os hb, owns_below h.og hb, owns_below h.ox hb⟩
theorem WSt.drew {w x : World} {t T' : Int} {aV sv gv xv : Value} {L' GL XL : List Int} {B D X G b0 b1 b2 : Nat} (h : WSt w t T' aV sv gv xv L' GL XL B D X G b0 b1 b2 x) : WSt w t T' aV sv gv xv L' GL XL B D X G b0 b1 b2 x.drew :=
  ⟨h.z.drew, ⟨h.a.lt, h.a.c0, h.a.c1⟩, ⟨h.d.lt, h.d.c0, h.d.c1⟩, ⟨h.bx.lt, h.bx.c0, h.bx.c1⟩, ⟨h.g.lt, h.g.c0, h.g.c1⟩, h.os, h.og, h.ox⟩
theorem WSt.markX {w x y : World} {t T' : Int} {aV sv gv xv : Value} {L' GL XL XL' : List Int} {B D X G b0 b1 b2 : Nat} (h : WSt w t T' aV sv gv xv L' GL XL B D X G b0 b1 b2 x) (hg : x.grownBy y xv.ownBlock) (ho : y.ownsRow b2 3 1 xv XL'.length (i64s XL'))
    (hw : w.heap.size ≤ b2) (hn : ∀ k, xv.ownBlock = some k → k ≠ B ∧ k ≠ D ∧ k ≠ X ∧ k ≠ G ∧ sv.ownBlock ≠ some k ∧ gv.ownBlock ≠ some k) : WSt w t T' aV sv gv xv L' GL XL' B D X G b0 b1 b2 y := by
  have z := Below.grown h.z hg h.z.size (fun k hk => Nat.le_trans hw (owns_own h.ox k hk).1)
  refine ⟨z, h.a.grown hg (fun e => (hn _ e).1 rfl), h.d.grown hg (fun e => (hn _ e).2.1 rfl), h.bx.grown hg (fun e => (hn _ e).2.2.1 rfl), h.g.grown hg (fun e => (hn _ e).2.2.2.1 rfl), h.os.kept hg ?_, h.og.kept hg ?_, ho⟩
  · cases e : sv.ownBlock with
    | none => exact .inl rfl
    | some k => exact .inr (fun e2 => (hn k e2.symm).2.2.2.2.1 e)
  · cases e : gv.ownBlock with
    | none => exact .inl rfl
    | some k => exact .inr (fun e2 => (hn k e2.symm).2.2.2.2.2 e)
theorem WSt.markG {w x y : World} {t T' : Int} {aV sv gv xv : Value} {L' GL GL' XL : List Int} {B D X G b0 b1 b2 : Nat} (h : WSt w t T' aV sv gv xv L' GL XL B D X G b0 b1 b2 x) (hg : x.grownBy y gv.ownBlock) (ho : y.ownsRow b1 3 1 gv GL'.length (i64s GL'))
    (hw : w.heap.size ≤ b1) (hn : ∀ k, gv.ownBlock = some k → k ≠ B ∧ k ≠ D ∧ k ≠ X ∧ k ≠ G ∧ sv.ownBlock ≠ some k ∧ xv.ownBlock ≠ some k) : WSt w t T' aV sv gv xv L' GL' XL B D X G b0 b1 b2 y := by
  have z := Below.grown h.z hg h.z.size (fun k hk => Nat.le_trans hw (owns_own h.og k hk).1)
  refine ⟨z, h.a.grown hg (fun e => (hn _ e).1 rfl), h.d.grown hg (fun e => (hn _ e).2.1 rfl), h.bx.grown hg (fun e => (hn _ e).2.2.1 rfl), h.g.grown hg (fun e => (hn _ e).2.2.2.1 rfl), h.os.kept hg ?_, ho, h.ox.kept hg ?_⟩
  · cases e : sv.ownBlock with
    | none => exact .inl rfl
    | some k => exact .inr (fun e2 => (hn k e2.symm).2.2.2.2.1 e)
  · cases e : xv.ownBlock with
    | none => exact .inl rfl
    | some k => exact .inr (fun e2 => (hn k e2.symm).2.2.2.2.2 e)
theorem owns_il {w : World} {base : Nat} {v : Value} {L : List Int} (h : w.ownsRow base 3 1 v L.length (i64s L)) : IL w v L := IL.of_owns h rfl
end Go.Proofs.YtefmmopkikpnhaaGreatDoor

