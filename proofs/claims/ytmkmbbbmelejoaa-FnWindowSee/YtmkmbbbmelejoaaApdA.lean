/- Lists of numbers that grow: append of a list to an owned one, as laws for the walk. The conditions stand at each theorem. -/
import Derived.Test.YtmkmbbbmelejoaaWinF
import Derived.OwnWalk
namespace Go.Proofs.Ytmkmbbbmelejoaa
open Go.RowKit Go.LatT Go.BlockM Go.OpnT Go.WinMath
set_option linter.unusedVariables false
set_option linter.unusedSimpArgs false
/-- Append of a list to an owned list, as one operation. -/
theorem wpI_append1 {o : Oper} {a : Act} {K : Act → World → Prop} {Q : Exit → Act → World → Prop} {w : World} (s x : Operand)
    (ho : o.op = .call { callee := .builtin .append, args := #[s, x], argTypes := #[23, 23] })
    (base : Nat) (v : Value) (n : Nat) (A : List Int) (hs : a.eval s = v) (hown : w.ownsRow base 3 1 v n (i64s A)) (u : Value) (L : List Int) (hx : a.eval x = u) (hL : IL w u L)
    (hlen : n + L.length ≤ 1000000) (hbase : base ≤ w.heap.size)
    (h : ∀ v' w', w'.ownsRow base 3 1 v' (n + L.length) (i64s (A ++ L)) → w.grownBy w' v.ownBlock → (v ≠ .slice none 0 0 → v' ≠ .slice none 0 0) → K (a.put o.dst v') w') : o.wp Try.prog a w K Q := by
  obtain ⟨i0, hi, hzz⟩ := Option.map_eq_some_iff.1 infoInt
  simp only [Prod.mk.injEq] at hzz
  obtain ⟨ad, cap, rfl, hcap, hL⟩ := hL
  rcases hL with ⟨rfl, rfl⟩ | ⟨bb, off, rfl, hlt, hc⟩
  · obtain rfl : L = [] := List.length_eq_zero_iff.1 (by omega)
    have hrun := run_append_owned_none (P := Try.prog) (w := w) base 23 o.type 3 i0 1 Try.underlying23 hi v n (i64s A) hown
    unfold Oper.wp
    simp only [List.length_nil] at hx
    simp [execOp, ho, resolve, invoke, builtin, hs, hx, hrun, Result.andThen]
    exact h v w (by simpa using hown) (World.grownBy.refl _ _) id
  · refine wp_append_own w s x 23 ho base 3 i0 (.int .i64 0) 1 8 Try.underlying23 hi hzz.1 hzz.2.1 hzz.2.2 rfl (by decide) v n (i64s A) hs hown ⟨bb, off, none⟩ L.length cap (i64s L) hx (by rw [i64s_len, Nat.mul_one]) (IL.news hc) (one_i64s L) (by unfold maxLen; omega) (by omega) hbase ?_
    intro v' w' h1 h2 h3
    exact h v' w' (by rw [i64s_append]; exact h1) h2 (fun hv e => hv (h3.1 e).1)
theorem wpI_append {ops : Array Oper} {rest : List Oper} {o : Oper} {a : Act} {Q : Exit → Act → World → Prop} {w : World} (hgd : o.guard = none) (s x : Operand)
    (ho : o.op = .call { callee := .builtin .append, args := #[s, x], argTypes := #[23, 23] })
    (base : Nat) (v : Value) (n : Nat) (A : List Int) (hs : a.eval s = v) (hown : w.ownsRow base 3 1 v n (i64s A)) (u : Value) (L : List Int) (hx : a.eval x = u) (hL : IL w u L)
    (hlen : n + L.length ≤ 1000000) (hbase : base ≤ w.heap.size)
    (h : ∀ v' w', w'.ownsRow base 3 1 v' (n + L.length) (i64s (A ++ L)) → w.grownBy w' v.ownBlock → (v ≠ .slice none 0 0 → v' ≠ .slice none 0 0) → wpList Try.prog ops Q rest (a.put o.dst v') w') : wpList Try.prog ops Q (o :: rest) a w :=
  wpList_plain hgd fun _ hK => wpI_append1 s x ho base v n A hs hown u L hx hL hlen hbase fun v' w' h2 h3 h4 => hK _ _ (h v' w' h2 h3 h4)
/-- The same as one step of a region that draws. -/
theorem stepI_append {ops : Array Oper} {o : Oper} {a : Act} {K : Act → World → Prop} {Q : Exit → Act → World → Prop} {E : Prop} {w : World} (hgd : o.guard = none) (s x : Operand)
    (ho : o.op = .call { callee := .builtin .append, args := #[s, x], argTypes := #[23, 23] })
    (base : Nat) (v : Value) (n : Nat) (A : List Int) (hs : a.eval s = v) (hown : w.ownsRow base 3 1 v n (i64s A)) (u : Value) (L : List Int) (hx : a.eval x = u) (hL : IL w u L)
    (hlen : n + L.length ≤ 1000000) (hbase : base ≤ w.heap.size)
    (h : ∀ v' w', w'.ownsRow base 3 1 v' (n + L.length) (i64s (A ++ L)) → w.grownBy w' v.ownBlock → (v ≠ .slice none 0 0 → v' ≠ .slice none 0 0) → K (a.put o.dst v') w') :
    if Region.wanted o (yielded ops a.tmps) = true then Oper.wp Try.prog o a w K Q else E := by
  have hw : Region.wanted o (yielded ops a.tmps) = true := by simp [Region.wanted, hgd]
  rw [if_pos hw]
  exact wpI_append1 s x ho base v n A hs hown u L hx hL hlen hbase h
/-- A list that lies in a new block. -/
theorem IL.new (w : World) (L : List Int) (t : TypeId) : IL (w.alloc (.cells (i64s L).toArray t)) (.slice (some ⟨w.heap.size, 0, none⟩) L.length L.length) L := by
  refine ⟨_, _, rfl, Nat.le_refl _, .inr ⟨_, 0, rfl, by simp, fun i hi => ?_⟩⟩
  have := cells_new w (i64s L) t i (.int .i64 (L.getD i 0)) (by simp [i64s, hi])
  unfold Addr.add at this
  by_cases hz : i = 0
  · subst hz; simpa using this
  · rw [if_neg hz] at this; exact this
theorem IL.one (w : World) (x : Int) (t : TypeId) : IL (w.alloc (.cells #[.int .i64 x] t)) (.slice (some ⟨w.heap.size, 0, none⟩) 1 1) [x] := IL.new w [x] t
theorem owns_len {w : World} {base n : Nat} {v : Value} {L : List Int} (h : w.ownsRow base 3 1 v n (i64s L)) : n = L.length := by
  have := h.1
  rw [i64s_len] at this
  omega
theorem owns_nil_lit {w : World} {base : Nat} (t : TypeId) (hb : base ≤ w.heap.size) : (w.alloc (.cells #[] 3)).ownsRow base 3 1 (.slice (some ⟨w.heap.size, 0, none⟩) 0 0) 0 (i64s []) := by
  have := World.ownsRow_lit (base := base) (e := 3) (size := 1) w #[] 0 hb (Nat.zero_le _) rfl
  exact this
theorem owns_some {w : World} {base n : Nat} {v : Value} {L : List Int} (h : w.ownsRow base 3 1 v n (i64s L)) (hv : v ≠ .slice none 0 0) : ∃ g cap, v = .slice (some ⟨g, 0, none⟩) L.length cap ∧ base ≤ g ∧ g < w.heap.size ∧ L.length ≤ cap ∧ cap ≤ maxLen ∧ ∀ i, i < L.length → w.cell? ⟨g, 0 + i, none⟩ = some (.int .i64 (L.getD i 0)) := by
  have hn := owns_len h
  subst hn
  have hI := IL.of_owns h rfl
  obtain ⟨h1, h2⟩ := h
  rcases h2 with ⟨rfl, _⟩ | ⟨g, cap, cur, rfl, e2, e3, e4, e5, e6, e7⟩
  · exact absurd rfl hv
  · refine ⟨g, cap, rfl, e2, (Array.getElem?_eq_some_iff.1 e3).1, e4, e5, ?_⟩
    obtain ⟨a, c, e, _, hI⟩ := hI
    simp only [Value.slice.injEq] at e
    obtain ⟨rfl, _, rfl⟩ := e
    rcases hI with ⟨h, _⟩ | ⟨bb, off, e, _, hc⟩
    · cases h
    · simp only [Option.some.injEq, Addr.mk.injEq] at e
      obtain ⟨rfl, rfl, _⟩ := e
      exact hc
/-- What an append leaves as it was: all below the base. -/
theorem owns_grown {w w' : World} {base n : Nat} {v : Value} {L : List Int} (h : w.ownsRow base 3 1 v n (i64s L)) (hg : w.grownBy w' v.ownBlock) (hb : base ≤ w.heap.size) : Below base w w' :=
  grown_below hg hb (fun k hk => (owns_own h k hk).1)
/-- A cell that is not of the owned row stays. -/
theorem grown_cells {w w' : World} {row : Option Nat} (hg : w.grownBy w' row) (b o : Nat) (hb : b < w.heap.size) (hr : row ≠ some b) : w'.cell? ⟨b, o, none⟩ = w.cell? ⟨b, o, none⟩ ∧ w'.frozen? ⟨b, o, none⟩ = w.frozen? ⟨b, o, none⟩ := by
  have h := (grown_below (B := 0) hg (Nat.zero_le _) (fun _ _ => Nat.zero_le _))
  obtain ⟨_, _, _, _, h5⟩ := hg
  have h6 : w'.heap[b]? = w.heap[b]? := by
    first | exact h5 b hb hr | exact h5 b hb (fun e => hr e.symm) | exact h5 _ hb (Ne.symm hr)
  exact ⟨by unfold World.cell?; rw [h6], by unfold World.frozen?; rw [h6]⟩
end Go.Proofs.Ytmkmbbbmelejoaa
