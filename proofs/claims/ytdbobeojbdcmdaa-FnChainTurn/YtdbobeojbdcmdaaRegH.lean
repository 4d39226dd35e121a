/- What is proved: a region of Go text whose order of evaluation is open, and whose last operation, a store, waits for all others, may be walked in whatever order with that store set aside, under a condition that holds behind each of the others. The conditions stand at the theorems. -/
import Derived.Test.YtdbobeojbdcmdaaLat
import Derived.OrdersHeld
namespace Go.RegH
open Go.RowKit Go.LatT
section
variable {P : Program} {ops : Array Oper} {md : Region.Mode} {S : World → Prop}
theorem wp_monoQ {o : Oper} {a : Act} {w : World} {K K' : Act → World → Prop} {Q Q' : Exit → Act → World → Prop} (h : ∀ a w, K a w → K' a w) (hE : ∀ e a w, e ≠ .normal → Q e a w → Q' e a w)
    (hh : o.wp P a w K Q) : o.wp P a w K' Q' := by
  unfold Oper.wp at *
  generalize (execOp a.eval o).run P w = r at *
  cases r with
  | ok n w' =>
    cases n <;> simp only [Oper.upon] at hh ⊢ <;>
      first
        | exact h _ _ hh
        | exact Calls.mono hh (fun e w'' he => by cases e <;> first | exact h _ _ he | exact hE _ _ _ (by simp) he | exact (he : LetsOut Q).imp fun a h => h.imp fun w h => hE _ _ _ (by simp) h)
        | exact Rows.mono hh (fun _ _ he => h _ _ he)
        | exact hE _ _ _ (by simp) hh
        | exact hh
  | halt x w' => cases x <;> simp only [Oper.upon] at hh ⊢ <;> first | exact hh | exact hE _ _ _ (by simp) hh
/-- What is asked ahead of the last operation. -/
def QT (P : Program) (ops : Array Oper) (o : Oper) (Q : Exit → Act → World → Prop) : Exit → Act → World → Prop
  | .normal, a, w => wpList P ops Q [o] a w
  | e, a, w => Q e a w
theorem QT_of {o : Oper} {Q : Exit → Act → World → Prop} (e : Exit) (a : Act) (w : World) (he : e ≠ .normal) (h : QT P ops o Q e a w) : Q e a w := by
  cases e <;> first | exact h | exact absurd rfl he
theorem wpAny_blank_last {n : Nat} {o : Oper} (hn : ops[n]? = some o) (hsz : ops.size = n + 1) (hwait : ∀ i, i < n → ∃ e ∈ o.after, Region.binds md e = true ∧ e.on = i)
    (hac : ∀ (i : Nat) (o : Oper), ops[i]? = some o → ∀ e ∈ o.after, e.on < i) (hg : o.guard = none) (hdst : o.dst = none) {Q : Exit → Act → World → Prop} :
    ∀ (fuel : Nat) (listed : Array Bool) (a : Act) (w : World), listed.size = ops.size → listed.getD n true = false →
      wpAny P md (ops.setIfInBounds n (blanked o)) (QT P ops o Q) fuel listed a w → wpAny P md ops Q fuel listed a w
  | 0, listed, a, w, hls, hu, h => by
    have h0 := h.1
    rw [ready_blank hn] at h0
    exact absurd h0 (some_ready hac hls n n (Nat.le_refl _) (by omega) hu)
  | fuel + 1, listed, a, w, hls, hu, h => by
    refine ⟨fun h0 => absurd h0 (some_ready hac hls n n (Nat.le_refl _) (by omega) hu), fun i hi => ?_⟩
    have h2 := h.2 i (by rw [ready_blank hn]; exact hi)
    by_cases hin : i = n
    · subst hin
      have hall : ∀ j, j < i → listed.getD j false = true := by
        intro j hj
        obtain ⟨_, o', ho', ha⟩ := mem_ready.1 hi
        have : o' = o := Option.some.inj (ho'.symm.trans hn)
        subst this
        obtain ⟨e, he, hb, hon⟩ := hwait j hj
        rw [← hon]; exact ha e he hb
      have hdone : Region.ready md ops (listed.setIfInBounds i true) = [] := by
        apply List.eq_nil_iff_forall_not_mem.2
        intro j hj
        obtain ⟨hun, o', ho', _⟩ := mem_ready.1 hj
        have hjlt : j < ops.size := (Array.getElem?_eq_some_iff.1 ho').1
        by_cases hji : i = j
        · subst hji
          have : i < listed.size := by omega
          simp [this] at hun
        · rw [getD_set_ne true hji] at hun
          have h3 := hall j (by omega)
          have hs : j < listed.size := by omega
          simp [hs] at hun h3
          rw [hun] at h3; cases h3
      have hput : ∀ (a : Act) (v : Value), a.put (blanked o).dst v = a := by intro a v; simp [blanked, hdst, Act.put]
      have hq : wpList P ops Q [o] a w := by
        unfold wpOp at h2
        rw [at_blank hn, if_pos rfl] at h2
        have hw : Region.wanted (blanked o) (yielded (ops.setIfInBounds i (blanked o)) a.tmps) = true := by simp [Region.wanted, blanked, hg]
        simp only [hw, if_true] at h2
        have hd : Region.ready md (ops.setIfInBounds i (blanked o)) (listed.setIfInBounds i true) = [] := by rw [ready_blank hn]; exact hdone
        have hr := BigFrame.run_move (P := P) (w := w) (ρ := a.eval) (o := blanked o) (.const (.bool true)) rfl
        rcases h2 with h4 | ⟨h4, _⟩
        · unfold Oper.wp at h4
          rw [hr] at h4
          simp only [Oper.upon] at h4
          rw [hput] at h4
          cases fuel with
          | zero => exact h4.2
          | succ f => exact h4.1 hd
        · unfold Oper.asks at h4
          have h5 : noRoomEvent ∈ (#[] : Array Event) := h4.1
          simp at h5
      have hwa : Region.wanted o (yielded ops a.tmps) = true := by simp [Region.wanted, hg]
      simp only [wpList, hwa, if_true] at hq
      unfold wpOp
      rw [hn]
      simp only [hwa, if_true]
      exact hq.imp (fun h5 => Oper.wp_mono (fun a' w' h' => wpAny_stop hdone fuel a' w' h') h5) (fun h5 => h5)
    · unfold wpOp at h2 ⊢
      rw [at_blank hn, if_neg hin, yielded_blank hn] at h2
      have ih := fun a' w' h' => wpAny_blank_last hn hsz hwait hac hg hdst (Q := Q) fuel (listed.setIfInBounds i true) a' w' (by simp [hls]) (by rw [getD_set_ne true hin]; exact hu) h'
      split
      · rename_i ho
        simp only [ho] at h2
        exact ih _ _ h2
      · rename_i oi ho
        simp only [ho] at h2
        split
        · rename_i hw
          simp only [hw, if_true] at h2
          exact h2.imp (wp_monoQ ih QT_of) (fun h5 => ⟨h5.1, h5.2.imp fun a h => h.imp fun w h => QT_of _ _ _ (by simp) h⟩)
        · rename_i hw
          simp only [hw] at h2
          exact ih _ _ h2
/-- What is asked of the region, by a Bool. -/
def lastC (l : List Oper) (o : Oper) : Bool :=
  o.guard.isNone && o.dst.isNone && (List.range (l.length - 1)).all (fun i => o.after.any fun e => Region.binds .any e && e.on == i) &&
  (List.range l.length).all (fun i => ((l[i]?).map fun p => p.after.all fun e => decide (e.on < i)).getD true)
theorem wp_region_held_tail {id : Nat} {Q : Exit → Act → World → Prop} {a : Act} {w : World} {l init : List Oper} {o : Oper} (hm : P.follows .mixedOrders = true)
    (hi : l.dropLast = init) (ho : l.getLast? = some o) (hB : lastC l o = true)
    (h : wpAnyH P .any (init ++ [blanked o]).toArray (QT P l.toArray o Q) S l.length (Array.replicate l.length false) a w.drew) : (Code.region id l.toArray true).wp P Q a w := by
  have hne : l ≠ [] := by intro e; rw [e] at ho; cases ho
  have hl : l = init ++ [o] := by
    rw [← hi]
    rw [List.getLast?_eq_some_getLast hne] at ho
    rw [← Option.some.inj ho]; exact (List.dropLast_concat_getLast hne).symm
  simp only [lastC, Bool.and_eq_true] at hB
  obtain ⟨⟨⟨hg, hd⟩, hw⟩, hac⟩ := hB
  have hg' : o.guard = none := by simpa using hg
  have hd' : o.dst = none := by simpa using hd
  have hlen : l.length = init.length + 1 := by rw [hl]; simp
  have hn : l.toArray[init.length]? = some o := by rw [hl]; simp
  have hset : l.toArray.setIfInBounds init.length (blanked o) = (init ++ [blanked o]).toArray := by
    rw [hl]; simp
  refine wp_region_any hm ?_
  refine wpAny_blank_last hn (by simp [hlen]) (by
      intro i hi'
      have := List.all_eq_true.1 hw i (List.mem_range.2 (by omega))
      obtain ⟨e, he, hb⟩ := Array.any_eq_true'.1 this
      simp only [Bool.and_eq_true, beq_iff_eq] at hb
      exact ⟨e, he, hb.1, hb.2⟩) (by
      intro i p hp e he
      have hlt : i < l.length := by have := (Array.getElem?_eq_some_iff.1 hp).1; simpa using this
      have := List.all_eq_true.1 hac i (List.mem_range.2 hlt)
      have hp' : l[i]? = some p := by simpa using hp
      rw [hp'] at this
      simp only [Option.map_some, Option.getD_some] at this
      have := Array.all_eq_true_iff_forall_mem.1 this e he
      simpa using this) hg' hd' l.toArray.size (Array.replicate l.toArray.size false) a { w with drawn := w.drawn + 1 } (by simp) (by simp [hlen]) ?_
  rw [hset]
  have h1 := wpAny_of_held _ _ _ _ h
  simpa using h1
end
end Go.RegH
