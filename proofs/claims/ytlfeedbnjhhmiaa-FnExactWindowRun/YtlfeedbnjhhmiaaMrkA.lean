/- Lists of numbers that are marked, and held against marks. The conditions stand at each theorem. -/
import Derived.Test.YtlfeedbnjhhmiaaApdA
import Derived.Test.YtlfeedbnjhhmiaaWinK
namespace Go.Proofs.Ytlfeedbnjhhmiaa
open Go.RowKit Go.LatT Go.BlockM Go.OpnT Go.WinMath
set_option linter.unusedVariables false
set_option linter.unusedSimpArgs false
/-- Numbers that count on. -/
def upFrom (k : Int) (n : Nat) : List Int := (List.range n).map fun i : Nat => k + (i : Int)
theorem upFrom_len (k : Int) (n : Nat) : (upFrom k n).length = n := by simp [upFrom]
theorem upFrom_succ (k : Int) (n : Nat) : upFrom k (n + 1) = upFrom k n ++ [k + (n : Int)] := by simp [upFrom, List.range_succ]
theorem upFrom_get (k : Int) (n i : Nat) (h : i < n) : (upFrom k n).getD i 0 = k + (i : Int) := by simp [upFrom, h]
theorem mark_step (k : Int) (L : List Int) (i : Nat) (hi : i < L.length) : (i64s (upFrom k i ++ L.drop i)).set i (.int .i64 (k + (i : Int))) = i64s (upFrom k (i + 1) ++ L.drop (i + 1)) := by
  rw [List.drop_eq_getElem_cons hi, upFrom_succ]
  have h := upFrom_len k i
  simp only [i64s, List.map_append, List.map_cons, List.append_assoc, List.singleton_append]
  rw [List.set_append_right _ _ (by rw [List.length_map, h]; exact Nat.le_refl _)]
  simp [h]
theorem IRow.owns {w : World} {b n base : Nat} {E : Nat → Int} (h : IRow w b n E) (hb : base ≤ b) (hn : n ≤ maxLen) : w.ownsRow base 3 1 (.slice (some ⟨b, 0, none⟩) n n) n (i64s (LE E n)) := by
  obtain ⟨c, h1, h2, h3⟩ := h
  refine ⟨by simp [i64s, LE], .inr ⟨b, n, c, rfl, hb, h1, Nat.le_refl _, hn, by omega, ?_⟩⟩
  have hl : c.toList.length = n := by simpa using h2
  rw [Nat.mul_one, List.take_of_length_le (by omega)]
  apply List.ext_getElem?
  intro i
  by_cases hi : i < n
  · rw [show c.toList[i]? = c[i]? by simp, h3 i hi]
    simp [i64s, LE, hi]
  · rw [List.getElem?_eq_none (by omega), List.getElem?_eq_none (by simp [i64s, LE]; omega)]
set_option maxHeartbeats 2000000 in
set_option maxRecDepth 100000 in
theorem mark_any (base : Nat) (v : Value) (L : List Int) (k : Int) (w : World) (ho : w.ownsRow base 3 1 v L.length (i64s L)) (hl : L.length ≤ 1048576) (h0 : 0 ≤ k) (h1 : k ≤ 1048576) :
    Calls Try.prog 22 #[v, .int .i64 k] w fun e w' => e = .returned (.int .i64 (k + L.length)) ∧ w'.ownsRow base 3 1 v L.length (i64s (upFrom k L.length)) ∧ w.grownBy w' v.ownBlock := by
  by_cases hv : v = .slice none 0 0
  · have hz : L.length = 0 := by
      subst hv
      rcases ho.2 with ⟨_, h⟩ | ⟨_, _, _, h, _⟩
      · exact h
      · simp at h
    obtain rfl : L = [] := List.length_eq_zero_iff.1 hz
    subst hv
    have HO := hid_in ho
    clear ho
    go_enter Try.func22, Try.ntmps22
    go_wp2_with fail
    refine wp_loop_rounds 1 ?_
    rw [rounds_succ]
    go_wp2_with fail
    go_ret
    exact ⟨by simp, by simpa [upFrom] using HO.out, World.grownBy.refl _ _⟩
  · obtain ⟨g, cap, rfl, e1, e2, e3, e4, e5⟩ := owns_some ho hv
    have HO := hid_in ho
    clear ho e5
    go_enter Try.func22, Try.ntmps22
    go_wp2_with fail
    go_loopw [1, 5] (fun u1 u2 wr => ∃ i : Nat, i ≤ L.length ∧ u1 = .int .i64 (k + (i : Int)) ∧ u2 = .int .i64 (i : Int) ∧ Hid (wr.ownsRow base 3 1 (.slice (some ⟨g, 0, none⟩) L.length cap) L.length (i64s (upFrom k i ++ L.drop i)) ∧ w.grownBy wr (some g))) (fun u1 u2 _ => L.length - (intOf u2).toNat)
    case atStart => exact ⟨0, Nat.zero_le _, by simp, rfl, by show _ ∧ _; exact ⟨by simpa [upFrom] using HO.out, World.grownBy.refl _ _⟩⟩
    case round =>
      obtain ⟨i, hi, rfl, rfl, HW⟩ := hrel
      obtain ⟨io, ig⟩ := HW.out
      have hfz := io.frozenAt i
      have hgl : g < wr.heap.size := (owns_own io g rfl).2
      have IO := hid_in io; have IG := hid_in ig
      by_cases hlt : i < L.length
      · have hd : (i : Int) < (L.length : Int) := by omega
        obtain ⟨uu, hc⟩ : ∃ uu, wr.cell? ⟨g, i, none⟩ = some uu := by
          rw [io.cellAt i (by omega)]
          exact ⟨_, List.getElem?_eq_getElem (by rw [i64s_len, List.length_append, upFrom_len, List.length_drop]; omega)⟩
        clear io ig
        go_wp2_with fail
        refine ⟨⟨i + 1, by omega, by simp; omega, by simp, ?_⟩, by simp [intOf]; omega⟩
        show _ ∧ _
        obtain ⟨a1, a2⟩ := IO.out.stored i (.int .i64 (k + (i : Int)))
        rw [mark_step k L i hlt] at a1
        exact ⟨a1, ⟨a2.os.trans IG.out.os, a2.tape.trans IG.out.tape, a2.output.trans IG.out.output, Nat.le_trans IG.out.size a2.size, fun j hj hne => (a2.block j (Nat.lt_of_lt_of_le hj IG.out.size) hne).trans (IG.out.block j hj hne)⟩⟩
      · have hd : decide ((i : Int) < (L.length : Int)) = false := by simp; omega
        have e : i = L.length := by omega
        have HE := hid_in e
        clear io ig e
        go_wp2_with fail
        go_ret
        refine ⟨ret_int (by rw [HE.out]), ?_, IG.out⟩
        have h := IO.out
        rw [HE.out, List.drop_length, List.append_nil] at h
        exact h
set_option maxHeartbeats 2000000 in
set_option maxRecDepth 100000 in
theorem held_any (base : Nat) (v : Value) (n : Nat) (k : Int) (w : World) (ho : w.ownsRow base 3 1 v n (i64s (upFrom k n))) (hl : n ≤ 1048576) (h0 : 0 ≤ k) (h1 : k ≤ 1048576) :
    Calls Try.prog 23 #[v, .int .i64 k] w fun e w' => e = .returned (.int .i64 (k + n)) ∧ Below w.heap.size w w' := by
  by_cases hv : v = .slice none 0 0
  · have hz : n = 0 := by
      subst hv
      rcases ho.2 with ⟨_, h⟩ | ⟨_, _, _, h, _⟩
      · exact h
      · simp at h
    subst hv hz
    clear ho
    go_enter Try.func23, Try.ntmps23
    go_wp2_with fail
    refine wp_loop_rounds 1 ?_
    rw [rounds_succ]
    go_wp2_with fail
    go_ret
    exact ⟨by simp, Below.refl _ _⟩
  · obtain ⟨g, cap, rfl, e1, e2, e3, e4, e5⟩ := owns_some ho hv
    rw [upFrom_len] at e5
    have E5 := hid_in e5
    rw [upFrom_len]
    clear ho e5 hv
    go_enter Try.func23, Try.ntmps23
    go_wp2_with fail
    go_loopw [1, 5] (fun u1 u2 wr => ∃ i : Nat, i ≤ n ∧ u1 = .int .i64 (k + (i : Int)) ∧ u2 = .int .i64 (i : Int) ∧ Hid (Below w.heap.size w wr)) (fun u1 u2 _ => n - (intOf u2).toNat)
    case atStart => exact ⟨0, Nat.zero_le _, by simp, rfl, by show Below _ _ _; exact Below.refl _ _⟩
    case round =>
      obtain ⟨i, hi, rfl, rfl, HW⟩ := hrel
      by_cases hlt : i < n
      · have hd : (i : Int) < (n : Int) := by omega
        have g0 := ((bcell HW.out).1 g (0 + i) e2).trans (E5.out i hlt)
        rw [Nat.zero_add, upFrom_get k n i hlt] at g0
        go_wp2_with fail
        refine ⟨⟨i + 1, by omega, by simp; omega, by simp, HW⟩, by simp [intOf]; omega⟩
      · have hd : decide ((i : Int) < (n : Int)) = false := by simp; omega
        have e : i = n := by omega
        have HE := hid_in e
        clear e
        go_wp2_with fail
        go_ret
        exact ⟨ret_int (by rw [HE.out]), HW.out⟩
theorem eqI_any (v1 v2 : Value) (L : List Int) (w : World) (h1 : IL w v1 L) (h2 : IL w v2 L) (hl : L.length ≤ 1048576) :
    Calls Try.prog 21 #[v1, v2] w fun e w' => e = .returned (.bool true) ∧ Below w.heap.size w w' := by
  obtain ⟨a1, c1, rfl, i1⟩ := h1.ints
  obtain ⟨a2, c2, rfl, i2⟩ := h2.ints
  exact eqIntS_self a1 a2 L.length c1 c2 (gE L) w i1 i2 hl
end Go.Proofs.Ytlfeedbnjhhmiaa
