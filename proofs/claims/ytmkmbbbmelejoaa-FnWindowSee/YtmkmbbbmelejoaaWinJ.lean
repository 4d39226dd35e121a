/- A window made of a word of bits, in the program; what the specification and the program answer to a window and a number. The conditions stand at each theorem. -/
import Derived.Test.YtmkmbbbmelejoaaWinI
import Derived.Test.YtmkmbbbmelejoaaWinD
namespace Go.Proofs.Ytmkmbbbmelejoaa
open Go.RowKit Go.LatT Go.BlockM Go.OpnT Go.WinMath
set_option linter.unusedVariables false
set_option linter.unusedSimpArgs false
/-- The numbers of a word of bits, from the oldest on, behind k of sixteen. -/
def winL (T : Int) (c : Nat) : Nat → List Int
  | 0 => []
  | k + 1 => winL T c k ++ (if c.testBit (15 - k) then [T - ((15 - k : Nat) : Int)] else [])
theorem mem_winL (T : Int) (c : Nat) (x : Int) : ∀ k, x ∈ winL T c k ↔ ∃ j, j < k ∧ c.testBit (15 - j) = true ∧ x = T - ((15 - j : Nat) : Int)
  | 0 => by simp [winL]
  | k + 1 => by
    have ih := mem_winL T c x k
    unfold winL
    rw [List.mem_append, ih]
    constructor
    · rintro (⟨j, h1, h2, h3⟩ | h)
      · exact ⟨j, by omega, h2, h3⟩
      · split at h
        · rename_i hb
          exact ⟨k, by omega, hb, by simpa using h⟩
        · simp at h
    · rintro ⟨j, h1, h2, h3⟩
      by_cases hj : j < k
      · exact .inl ⟨j, hj, h2, h3⟩
      · obtain rfl : j = k := by omega
        exact .inr (by rw [if_pos h2, h3]; simp)
theorem winL_len (T : Int) (c : Nat) : ∀ k, (winL T c k).length ≤ k
  | 0 => by simp [winL]
  | k + 1 => by
    have := winL_len T c k
    unfold winL
    rw [List.length_append]
    split <;> simp <;> omega
theorem asc_winL (T : Int) (c : Nat) : ∀ k, k ≤ 16 → (winL T c k).Pairwise (· < ·)
  | 0, _ => by simp [winL]
  | k + 1, hk => by
    have ih := asc_winL T c k (by omega)
    unfold winL
    rw [List.pairwise_append]
    refine ⟨ih, by split <;> simp, fun a ha b hb => ?_⟩
    obtain ⟨j, h1, _, h3⟩ := (mem_winL T c a k).1 ha
    split at hb
    · have hb2 : b = T - ((15 - k : Nat) : Int) := by simpa using hb
      omega
    · simp at hb
theorem asc_ext : ∀ (A B : List Int), A.Pairwise (· < ·) → B.Pairwise (· < ·) → (∀ x, x ∈ A ↔ x ∈ B) → A = B
  | [], [], _, _, _ => rfl
  | [], b :: B, _, _, h => absurd ((h b).2 (by simp)) (by simp)
  | a :: A, [], _, _, h => absurd ((h a).1 (by simp)) (by simp)
  | a :: A, b :: B, hA, hB, h => by
    have h1 := List.pairwise_cons.1 hA
    have h2 := List.pairwise_cons.1 hB
    have e : a = b := by
      rcases List.mem_cons.1 ((h a).1 (by simp)) with e | e
      · exact e
      · rcases List.mem_cons.1 ((h b).2 (by simp)) with e' | e'
        · exact e'.symm
        · have := h2.1 a e; have := h1.1 b e'; omega
    subst e
    rw [asc_ext A B h1.2 h2.2 (fun x => ?_)]
    constructor
    · intro hx
      rcases List.mem_cons.1 ((h x).1 (by simp [hx])) with e | e
      · have := h1.1 x hx; omega
      · exact e
    · intro hx
      rcases List.mem_cons.1 ((h x).2 (by simp [hx])) with e | e
      · have := h2.1 x hx; omega
      · exact e
theorem winL_rep {T : Int} {c : Nat} {L : List Int} (h : Rep T c L) : winL T c 16 = L := by
  refine asc_ext _ _ (asc_winL T c 16 (Nat.le_refl _)) h.asc (fun x => ?_)
  rw [mem_winL]
  constructor
  · rintro ⟨j, h1, h2, rfl⟩
    exact (h.bit _ (by omega)).1 h2
  · intro hx
    have hb := h.mem x hx
    refine ⟨15 - (T - x).toNat, by omega, (h.bit _ (by omega)).2 ?_, by omega⟩
    rw [show T - ((15 - (15 - (T - x).toNat) : Nat) : Int) = x by omega]
    exact hx
theorem bit_cond (c j : Nat) (hc : c < 65536) : (bits .and .u16 ((c : Int) / 2 ^ j) 1 == 1) = c.testBit j := by
  have e1 : ((c : Int) / 2 ^ j) = ((c / 2 ^ j : Nat) : Int) := by simp
  have h1 : c / 2 ^ j < 65536 := Nat.lt_of_le_of_lt (Nat.div_le_self _ _) hc
  rw [e1, show (1 : Int) = ((1 : Nat) : Int) from rfl, and_u16 _ 1 h1 (by decide), Nat.and_one_is_mod, Nat.testBit_eq_decide_div_mod_eq]
  rw [Bool.eq_iff_iff]
  simp
  omega
/-- What holds of a window that is made, behind k of sixteen. -/
def WI (B : Nat) (w4 : World) (T : Int) (c : Nat) (k : Nat) (wr : World) : Prop :=
  Mv B w4 wr ∧ wr.cell? ⟨B, 0, none⟩ = some (.int .i64 T) ∧ wr.frozen? ⟨B, 0, none⟩ = false ∧ wr.frozen? ⟨B, 1, none⟩ = false ∧
    ∃ vs m, wr.cell? ⟨B, 1, none⟩ = some vs ∧ wr.ownsRow w4.heap.size 3 1 vs m (i64s (winL T c k))
set_option maxHeartbeats 4000000 in
set_option maxRecDepth 100000 in
theorem window_any (T : Int) (c : Nat) (L : List Int) (w : World) (hr : Rep T c L) :
    Calls Try.prog 21 #[.agg #[.int .i64 T, .int .u16 (c : Int)]] w fun e w' => ∃ v', e = .returned (.agg #[.int .i64 T, v']) ∧ w'.ownsRow w.heap.size 3 1 v' L.length (i64s L) ∧ Below w.heap.size w w' := by
  have HR := hid_in hr
  have t0 := hr.t0; have t1 := hr.t1; have c1 := hr.lt
  clear hr
  go_enter Try.func21, Try.ntmps21
  go_wp2_with fail
  have zW : Below w.heap.size w (((w.alloc (Obj.cells #[.int .i64 T, .int .u16 (c : Int)] 42)).alloc (Obj.cells #[.int .i64 0, .slice none 0 0] 25)).alloc (Obj.cells #[.int .i64 T, .slice none 0 0] 25)) := by go_grown
  have sW : (((w.alloc (Obj.cells #[.int .i64 T, .int .u16 (c : Int)] 42)).alloc (Obj.cells #[.int .i64 0, .slice none 0 0] 25)).alloc (Obj.cells #[.int .i64 T, .slice none 0 0] 25)).heap.size = w.heap.size + 1 + 1 + 1 := by simp
  have k0 : (((w.alloc (Obj.cells #[.int .i64 T, .int .u16 (c : Int)] 42)).alloc (Obj.cells #[.int .i64 0, .slice none 0 0] 25)).alloc (Obj.cells #[.int .i64 T, .slice none 0 0] 25)).cell? ⟨w.heap.size, 0, none⟩ = some (.int .i64 T) := by go_simp
  have k1 : (((w.alloc (Obj.cells #[.int .i64 T, .int .u16 (c : Int)] 42)).alloc (Obj.cells #[.int .i64 0, .slice none 0 0] 25)).alloc (Obj.cells #[.int .i64 T, .slice none 0 0] 25)).cell? ⟨w.heap.size, 1, none⟩ = some (.int .u16 (c : Int)) := by go_simp
  have k2 : (((w.alloc (Obj.cells #[.int .i64 T, .int .u16 (c : Int)] 42)).alloc (Obj.cells #[.int .i64 0, .slice none 0 0] 25)).alloc (Obj.cells #[.int .i64 T, .slice none 0 0] 25)).cell? ⟨w.heap.size + 1, 0, none⟩ = some (.int .i64 0) := by go_simp
  have k3 : (((w.alloc (Obj.cells #[.int .i64 T, .int .u16 (c : Int)] 42)).alloc (Obj.cells #[.int .i64 0, .slice none 0 0] 25)).alloc (Obj.cells #[.int .i64 T, .slice none 0 0] 25)).cell? ⟨w.heap.size + 1, 1, none⟩ = some (.slice none 0 0) := by go_simp
  have k4 : (((w.alloc (Obj.cells #[.int .i64 T, .int .u16 (c : Int)] 42)).alloc (Obj.cells #[.int .i64 0, .slice none 0 0] 25)).alloc (Obj.cells #[.int .i64 T, .slice none 0 0] 25)).frozen? ⟨w.heap.size + 1, 0, none⟩ = false := by go_simp
  have k5 : (((w.alloc (Obj.cells #[.int .i64 T, .int .u16 (c : Int)] 42)).alloc (Obj.cells #[.int .i64 0, .slice none 0 0] 25)).alloc (Obj.cells #[.int .i64 T, .slice none 0 0] 25)).frozen? ⟨w.heap.size + 1, 1, none⟩ = false := by go_simp
  have k6 : (((w.alloc (Obj.cells #[.int .i64 T, .int .u16 (c : Int)] 42)).alloc (Obj.cells #[.int .i64 0, .slice none 0 0] 25)).alloc (Obj.cells #[.int .i64 T, .slice none 0 0] 25)).cell? ⟨w.heap.size + 1 + 1, 0, none⟩ = some (.int .i64 T) := by go_simp
  have k7 : (((w.alloc (Obj.cells #[.int .i64 T, .int .u16 (c : Int)] 42)).alloc (Obj.cells #[.int .i64 0, .slice none 0 0] 25)).alloc (Obj.cells #[.int .i64 T, .slice none 0 0] 25)).cell? ⟨w.heap.size + 1 + 1, 1, none⟩ = some (.slice none 0 0) := by go_simp
  have k8 : (((w.alloc (Obj.cells #[.int .i64 T, .int .u16 (c : Int)] 42)).alloc (Obj.cells #[.int .i64 0, .slice none 0 0] 25)).alloc (Obj.cells #[.int .i64 T, .slice none 0 0] 25)).frozen? ⟨w.heap.size + 1 + 1, 0, none⟩ = false := by go_simp
  have k9 : (((w.alloc (Obj.cells #[.int .i64 T, .int .u16 (c : Int)] 42)).alloc (Obj.cells #[.int .i64 0, .slice none 0 0] 25)).alloc (Obj.cells #[.int .i64 T, .slice none 0 0] 25)).frozen? ⟨w.heap.size + 1 + 1, 1, none⟩ = false := by go_simp
  generalize (((w.alloc (Obj.cells #[.int .i64 T, .int .u16 (c : Int)] 42)).alloc (Obj.cells #[.int .i64 0, .slice none 0 0] 25)).alloc (Obj.cells #[.int .i64 T, .slice none 0 0] 25)) = W at *
  have ZW := hid_in zW
  have K0 := hid_in k0; have K1 := hid_in k1; have K2 := hid_in k2; have K3 := hid_in k3; have K4 := hid_in k4; have K5 := hid_in k5
  have I0 : Hid (WI (w.heap.size + 1 + 1) W T c 0 W) := by show WI _ _ _ _ _ _; exact ⟨Mv.refl _ _, k6, k8, k9, _, 0, k7, World.ownsRow_nil _ _ _ _⟩
  clear k0 k1 k2 k3 k4 k5 k6 k7 k8 k9 zW
  go_loopw [4] (fun u wr => ∃ k : Nat, k ≤ 16 ∧ u = .int .i64 (15 - (k : Int)) ∧ Hid (WI (w.heap.size + 1 + 1) W T c k wr)) (fun u _ => (intOf u + 1).toNat)
  case atStart => exact ⟨0, Nat.zero_le _, rfl, I0⟩
  case round =>
    obtain ⟨k, hk, rfl, HW⟩ := hrel
    obtain ⟨hM, i0, i2, i3, vs, m, i1, io⟩ := HW.out
    have q0 := (hM.cell w.heap.size 0 (by omega) (by omega)).trans K0.out
    have q1 := (hM.cell w.heap.size 1 (by omega) (by omega)).trans K1.out
    have q2 := (hM.cell (w.heap.size + 1) 0 (by omega) (by omega)).trans K2.out
    have q3 := (hM.cell (w.heap.size + 1) 1 (by omega) (by omega)).trans K3.out
    have q4 := (hM.frozen (w.heap.size + 1) 0 (by omega) (by omega)).trans K4.out
    have q5 := (hM.frozen (w.heap.size + 1) 1 (by omega) (by omega)).trans K5.out
    have hsz := hM.size
    obtain ⟨a5, c5, rfl⟩ := owns_form io
    have hmk : m ≤ k := by rw [owns_len io]; exact winL_len T c k
    have l1 : w.heap.size + 1 + 1 < wr.heap.size := by omega
    have l2 : w.heap.size + 1 < wr.heap.size := by omega
    have l3 : w.heap.size < wr.heap.size := by omega
    have IO := hid_in io; have HMv := hid_in hM
    have SW := hid_in sW; have SZ := hid_in hsz
    clear hM io
    by_cases hlt : k < 16
    · have hd : decide (15 - (k : Int) ≥ 0) = true := by simp; omega
      have hd2 : (0 : Int) ≤ 15 - (k : Int) := by omega
      cases hbit : c.testBit (15 - k)
      · have hcond := bit_cond c (15 - k) c1
        rw [hbit] at hcond
        have HB := hid_in hbit
        clear hbit
        go_wp2_with fail
        refine ⟨⟨k + 1, by omega, by simp; omega, ?_⟩, by simp [intOf]; omega⟩
        show WI _ _ _ _ _ _
        refine ⟨HMv.out, i0, i2, i3, _, m, i1, ?_⟩
        unfold winL
        rw [if_neg (by rw [HB.out]; simp), List.append_nil]
        exact IO.out
      · have hcond := bit_cond c (15 - k) c1
        rw [hbit] at hcond
        have HB := hid_in hbit
        have hne5 : Hid ((Value.slice a5 m c5).ownBlock ≠ some (w.heap.size + 1 + 1)) := by
          show _ ≠ _
          intro h; have := (owns_own IO.out _ h).1; omega
        clear hbit
        go_wp2_with (at_builtin; refine wpI_append rfl (.tmp 19) (.tmp 24) rfl W.heap.size (.slice a5 m c5) m _ rfl (IO.out.alloc _) _ [T - (15 - (k : Int))] rfl (IL.one _ _ _) (by simp; omega) (by simp; omega) ?_; intro v6 w6 o6 g6 n6; have u1 : w6.cell? ⟨w.heap.size + 1 + 1, 1, none⟩ = some (.slice a5 m c5) := ((grown_cells g6 (w.heap.size + 1 + 1) 1 (by simp; omega) hne5.out).1.trans (by go_simp)); have u0 : w6.cell? ⟨w.heap.size + 1 + 1, 0, none⟩ = some (.int .i64 T) := ((grown_cells g6 (w.heap.size + 1 + 1) 0 (by simp; omega) hne5.out).1.trans (by go_simp)); have u2 : w6.frozen? ⟨w.heap.size + 1 + 1, 1, none⟩ = false := ((grown_cells g6 (w.heap.size + 1 + 1) 1 (by simp; omega) hne5.out).2.trans (by go_simp)); have u3 : w6.frozen? ⟨w.heap.size + 1 + 1, 0, none⟩ = false := ((grown_cells g6 (w.heap.size + 1 + 1) 0 (by simp; omega) hne5.out).2.trans (by go_simp)); obtain ⟨a6, c6, e6⟩ := owns_form o6; subst e6; have O6 := hid_in o6; have G6 := hid_in g6; clear o6 g6 n6 i0 i1 i2 i3 q0 q1 q2 q3 q4 q5)
        refine ⟨⟨k + 1, by omega, by simp; omega, ?_⟩, by simp [intOf]; omega⟩
        show WI _ _ _ _ _ _
        refine ⟨(HMv.out.grown (by go_grown) G6.out (fun k hk => (owns_own IO.out k hk).1)).poke1 _, by go_simp, by go_simp, by go_simp, .slice a6 (m + 1) c6, m + 1, by go_simp, ?_⟩
        unfold winL
        rw [if_pos HB.out, show ((15 - k : Nat) : Int) = 15 - (k : Int) by omega]
        exact owns_set O6.out (by omega)
    · have hd : decide (15 - (k : Int) ≥ 0) = false := by simp; omega
      have hk16 : k = 16 := by omega
      subst hk16
      go_wp2_with fail
      exact bodyPost_ret (v := .agg #[.int .i64 T, .slice a5 m c5]) (by simp [results, Try.results21, go_sem, q2, q3]) rfl
        ⟨_, rfl, by
          have h := IO.out
          have hl := owns_len h
          rw [winL_rep HR.out] at h hl
          rw [← hl]
          exact owns_base (owns_set (owns_set h (by have := SW.out; omega)) (by have := SW.out; omega)) (by have := SW.out; omega), ((ZW.out.trans (HMv.out.below (by have := SW.out; omega) (by omega))).setCell (by simp) _).setCell (by simp) _⟩
end Go.Proofs.Ytmkmbbbmelejoaa
