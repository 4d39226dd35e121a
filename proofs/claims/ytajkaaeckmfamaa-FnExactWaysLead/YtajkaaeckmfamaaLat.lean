/- What is proved: a region of Go text whose order of evaluation is open, and whose operations only read what was there while its callees only make memory, may be walked once, in the order of the text; also where its last operation, a store, waits for all others. No conditions. -/
import Derived.Deep.Quiet
import Derived.Below
import Derived.BigQuiet
namespace Go.LatT
open Go.RowKit
section
variable {P : Program} {ops : Array Oper} {C : World → Prop} {md : Region.Mode}

/-- The operation, doing nothing in its place. -/
def blanked (o : Oper) : Oper := { o with op := .move (.const (.bool true)) }

theorem at_blank {n : Nat} {o : Oper} (hn : ops[n]? = some o) (j : Nat) : (ops.setIfInBounds n (blanked o))[j]? = if j = n then some (blanked o) else ops[j]? := by
  have hlt : n < ops.size := (Array.getElem?_eq_some_iff.1 hn).1
  rw [Array.getElem?_setIfInBounds]
  by_cases h : n = j
  · subst h; simp [hlt]
  · rw [if_neg h, if_neg (Ne.symm h)]

theorem ready_blank {n : Nat} {o : Oper} (hn : ops[n]? = some o) (listed : Array Bool) : Region.ready md (ops.setIfInBounds n (blanked o)) listed = Region.ready md ops listed := by
  unfold Region.ready
  rw [Array.size_setIfInBounds]
  apply List.filter_congr
  intro i _
  rw [at_blank hn]
  by_cases h : i = n
  · subst h; simp [hn, blanked]
  · rw [if_neg h]

theorem yielded_blank {n : Nat} {o : Oper} (hn : ops[n]? = some o) (tmps : Array Value) : yielded (ops.setIfInBounds n (blanked o)) tmps = yielded ops tmps := by
  funext j
  unfold yielded
  rw [at_blank hn]
  by_cases h : j = n
  · subst h; simp [hn, blanked]
  · rw [if_neg h]

theorem wpAny_stop {Q' : Exit → Act → World → Prop} {listed : Array Bool} (h0 : Region.ready md ops listed = []) (f : Nat) (a : Act) (w : World) (h : Q' .normal a w) : wpAny P md ops Q' f listed a w := by
  cases f with
  | zero => exact ⟨h0, h⟩
  | succ f => exact ⟨fun _ => h, fun i hi => by rw [h0] at hi; cases hi⟩

theorem some_ready {listed : Array Bool} (hac : ∀ (i : Nat) (o : Oper), ops[i]? = some o → ∀ e ∈ o.after, e.on < i) (hls : listed.size = ops.size) :
    ∀ (k n : Nat), n ≤ k → n < ops.size → listed.getD n true = false → Region.ready md ops listed ≠ [] := by
  intro k
  induction k with
  | zero =>
    intro n hk hn hu h0
    have : n = 0 := by omega
    subst this
    have hm : 0 ∈ Region.ready md ops listed := mem_ready.2 ⟨hu, ops[0], by simp [hn], fun e he _ => by have := hac 0 ops[0] (by simp [hn]) e he; omega⟩
    rw [h0] at hm; cases hm
  | succ k ih =>
    intro n hk hn hu h0
    by_cases hall : ∀ e ∈ (ops[n]'hn).after, Region.binds md e = true → listed.getD e.on false = true
    · have hm : n ∈ Region.ready md ops listed := mem_ready.2 ⟨hu, ops[n], by simp [hn], hall⟩
      rw [h0] at hm; cases hm
    · obtain ⟨e, he⟩ := Classical.not_forall.1 hall
      obtain ⟨hm, he⟩ := Classical.not_imp.1 he
      obtain ⟨_, he⟩ := Classical.not_imp.1 he
      have hlt := hac n ops[n] (by simp [hn]) e hm
      refine ih e.on (by omega) (by omega) ?_ h0
      have hs : e.on < listed.size := by omega
      simp [hs] at he ⊢
      exact he

theorem wpAny_of_quiet_last {n : Nat} {o : Oper} (hn : ops[n]? = some o) (hsz : ops.size = n + 1) (hwait : ∀ i, i < n → ∃ e ∈ o.after, Region.binds md e = true ∧ e.on = i)
    (hac : ∀ (i : Nat) (o : Oper), ops[i]? = some o → ∀ e ∈ o.after, e.on < i) (hg : o.guard = none) (hdst : o.dst = none)
    {Q : Act → Prop} {Q' : Exit → Act → World → Prop} (hQ : ∀ a w, C w → Q a → (o.wp P a w (fun a' w' => Q' .normal a' w') Q' ∨ (o.asks P a w ∧ LetsOut Q'))) :
    ∀ (fuel : Nat) (listed : Array Bool) (a : Act) (w : World), listed.size = ops.size → listed.getD n true = false → C w →
      wpAnyQ P md (ops.setIfInBounds n (blanked o)) C Q fuel listed a → wpAny P md ops Q' fuel listed a w
  | 0, listed, a, w, hls, hu, hC, h => by
    have h0 := h.1
    rw [ready_blank hn] at h0
    exact absurd h0 (some_ready hac hls n n (Nat.le_refl _) (by omega) hu)
  | fuel + 1, listed, a, w, hls, hu, hC, h => by
    refine ⟨fun h0 => absurd h0 (some_ready hac hls n n (Nat.le_refl _) (by omega) hu), fun i hi => ?_⟩
    have h2 := h.2 i (by rw [ready_blank hn]; exact hi)
    by_cases hin : i = n
    · subst hin
      have hall : ∀ j, j < i → listed.getD j false = true := by
        intro j hj
        obtain ⟨_, o', ho', ha⟩ := mem_ready.1 hi
        have : o' = o := Option.some.inj (ho'.symm.trans hn)
        subst this
        obtain ⟨e, he, hb, hon⟩ := hwait j hj
        rw [← hon]; exact ha e he hb
      have hdone : Region.ready md ops (listed.setIfInBounds i true) = [] := by
        apply List.eq_nil_iff_forall_not_mem.2
        intro j hj
        obtain ⟨hun, o', ho', _⟩ := mem_ready.1 hj
        have hjlt : j < ops.size := (Array.getElem?_eq_some_iff.1 ho').1
        by_cases hji : i = j
        · subst hji
          have : i < listed.size := by omega
          simp [this] at hun
        · rw [getD_set_ne true hji] at hun
          have h3 := hall j (by omega)
          have hs : j < listed.size := by omega
          simp [hs] at hun h3
          rw [hun] at h3; cases h3
      unfold qOp at h2
      rw [at_blank hn, if_pos rfl] at h2
      have hq : Q a := by
        have hput : ∀ (a : Act) (v : Value), a.put (blanked o).dst v = a := by intro a v; simp [blanked, hdst, Act.put]
        have hw : Region.wanted (blanked o) (yielded (ops.setIfInBounds i (blanked o)) a.tmps) = true := by simp [Region.wanted, blanked, hg]
        simp only [hw, if_true] at h2
        obtain ⟨v, _, h4⟩ := h2
        rw [hput] at h4
        have hd : Region.ready md (ops.setIfInBounds i (blanked o)) (listed.setIfInBounds i true) = [] := by rw [ready_blank hn]; exact hdone
        cases fuel with
        | zero => exact h4.2
        | succ f => exact h4.1 hd
      unfold wpOp
      rw [hn]
      have hw : Region.wanted o (yielded ops a.tmps) = true := by simp [Region.wanted, hg]
      simp only [hw, if_true]
      exact (hQ a w hC hq).imp (fun h5 => Oper.wp_mono (fun a' w' h' => wpAny_stop hdone fuel a' w' h') h5) (fun h5 => h5)
    · have h3 : qOp P ops C i (wpAnyQ P md (ops.setIfInBounds n (blanked o)) C Q fuel (listed.setIfInBounds i true)) a := by
        unfold qOp at h2 ⊢
        rw [at_blank hn, if_neg hin, yielded_blank hn] at h2
        exact h2
      exact wpOp_of_qOp hC (fun a' w' hw' h' => wpAny_of_quiet_last hn hsz hwait hac hg hdst hQ fuel _ a' w' (by simp [hls]) (by rw [getD_set_ne true hin]; exact hu) hw' h') h3

/-- What is asked of a region whose last operation waits for all others, by a Bool. -/
def lastB (l : List Oper) (o : Oper) : Bool :=
  o.guard.isNone && o.dst.isNone && (List.range (l.length - 1)).all (fun i => o.after.any fun e => Region.binds .any e && e.on == i) &&
  (List.range l.length).all (fun i => ((l[i]?).map fun p => p.after.all fun e => decide (e.on < i)).getD true) && Region.lexB .any (l.dropLast ++ [blanked o]).toArray

/-- A world that is as w was below w's own end. -/
structure Lat (w : World) where
  x : World
  h : Below w.heap.size w x
theorem Lat.cell {w : World} (l : Lat w) (b o : Nat) (h : b < w.heap.size) : l.x.cell? ⟨b, o, none⟩ = w.cell? ⟨b, o, none⟩ := l.h.cell (p := ⟨b, o, none⟩) h
theorem Lat.frozen {w : World} (l : Lat w) (b o : Nat) (h : b < w.heap.size) : l.x.frozen? ⟨b, o, none⟩ = w.frozen? ⟨b, o, none⟩ := l.h.frozen (p := ⟨b, o, none⟩) h
theorem lat_of {f : FuncId} {args : Array Value} {w : World} {l : Lat w} {v : Value}
    (h : Calls P f args l.x fun e w' => e = .returned v ∧ Below l.x.heap.size l.x w') : Calls P f args l.x fun e w'' => e = .returned v ∧ ∃ m : Lat w, w'' = m.x :=
  h.mono fun _ _ ⟨he, hm⟩ => ⟨he, ⟨_, l.h.trans (hm.mono l.h.size)⟩, rfl⟩
theorem lat_same {f : FuncId} {args : Array Value} {w : World} {l : Lat w} {v : Value}
    (h : Calls P f args l.x fun e w' => e = .returned v ∧ w' = l.x) : Calls P f args l.x fun e w'' => e = .returned v ∧ ∃ m : Lat w, w'' = m.x :=
  h.mono fun _ _ ⟨he, hm⟩ => ⟨he, l, hm⟩
theorem lat_drew {f : FuncId} {args : Array Value} {w : World} {l : Lat w} {v : Value}
    (h : Calls P f args l.x fun e w' => e = .returned v ∧ ∃ m, w' = l.x.drewN m) : Calls P f args l.x fun e w'' => e = .returned v ∧ ∃ m : Lat w, w'' = m.x :=
  h.mono fun _ _ ⟨he, m, hm⟩ => ⟨he, ⟨_, l.h.trans (by rw [hm]; exact ⟨rfl, rfl, rfl, Nat.le_refl _, fun _ _ => rfl⟩)⟩, rfl⟩

theorem lat_all (w : World) (Q : World → Prop) : (∀ w', (∃ n : Lat w, w' = n.x) → Q w') ↔ ∀ w', Below w.heap.size w w' → Q w' :=
  ⟨fun h w' hb => h w' ⟨⟨w', hb⟩, rfl⟩, fun h w' ⟨n, e⟩ => by subst e; exact h _ n.h⟩

/-- A region that draws its order, reads what was there and calls what only makes memory: one walk, in the text's order. -/
theorem wp_region_lat {id : Nat} {Q : Exit → Act → World → Prop} {a : Act} {w wn : World} {l : List Oper} (h0 : Below w.heap.size w wn) (hm : P.follows .mixedOrders = true) (hB : Region.lexB .any l.toArray = true)
    (h : Nonempty (Lat w) → (∀ (l : Lat w) (b o : Nat), b < w.heap.size → l.x.cell? ⟨b, o, none⟩ = w.cell? ⟨b, o, none⟩) →
      wpQuiet P l.toArray (fun w' => ∃ n : Lat w, w' = n.x) (fun a' => ∀ w', Below w.heap.size w w' → Q .normal a' w') l a) : (Code.region id l.toArray true).wp P Q a wn := by
  have h1 := h ⟨⟨w, Below.refl _ _⟩⟩ Lat.cell
  refine wp_region_quiet (C := fun w' => ∃ n : Lat w, w' = n.x) hm hB ⟨⟨wn.drew, h0.drew⟩, rfl⟩ ?_
  have e : (fun a' => ∀ w', (∃ n : Lat w, w' = n.x) → Q .normal a' w') = (fun a' => ∀ w', Below w.heap.size w w' → Q .normal a' w') := by
    funext a'
    exact propext (lat_all w _)
  rw [e]
  simpa using h1

theorem wpQuiet_congr {Q : Act → Prop} {ops' : Array Oper} (hy : ∀ tmps, yielded ops' tmps = yielded ops tmps) : ∀ (l : List Oper) (a : Act), wpQuiet P ops C Q l a → wpQuiet P ops' C Q l a
  | [], _, h => h
  | o :: l, a, h => by
    simp only [wpQuiet, hy] at h ⊢
    split
    · rename_i hw; simp only [hw, if_true] at h
      exact Oper.quiet_mono (fun a' h' => wpQuiet_congr hy l a' h') h
    · rename_i hw; simp only [hw] at h
      exact wpQuiet_congr hy l _ h

theorem wpQuiet_snoc {Q : Act → Prop} {o : Oper} (hg : o.guard = none) (hd : o.dst = none) : ∀ (l : List Oper) (a : Act), wpQuiet P ops C Q l a → wpQuiet P ops C Q (l ++ [blanked o]) a
  | [], a, h => by
    have hw : Region.wanted (blanked o) (yielded ops a.tmps) = true := by simp [Region.wanted, blanked, hg]
    simp only [List.nil_append, wpQuiet, hw, if_true]
    refine ⟨.bool true, fun w _ => ?_, ?_⟩
    · unfold Oper.quietAt
      rw [BigFrame.run_move (.const (.bool true)) rfl]
      exact ⟨rfl, rfl⟩
    · have : a.put (blanked o).dst (.bool true) = a := by simp [blanked, hd, Act.put]
      rw [this]; exact h
  | p :: l, a, h => by
    simp only [List.cons_append, wpQuiet] at h ⊢
    split
    · rename_i hw; simp only [hw, if_true] at h
      exact Oper.quiet_mono (fun a' h' => wpQuiet_snoc hg hd l a' h') h
    · rename_i hw; simp only [hw] at h
      exact wpQuiet_snoc hg hd l _ h

/-- The same where the last operation, a store, waits for all others. -/
theorem wp_region_lat_tail {id : Nat} {Q : Exit → Act → World → Prop} {a : Act} {w wn : World} {l init : List Oper} {o : Oper} (h0 : Below w.heap.size w wn) (hm : P.follows .mixedOrders = true)
    (hi : l.dropLast = init) (ho : l.getLast? = some o) (hB : lastB l o = true)
    (h : Nonempty (Lat w) → (∀ (l : Lat w) (b o : Nat), b < w.heap.size → l.x.cell? ⟨b, o, none⟩ = w.cell? ⟨b, o, none⟩) →
      wpQuiet P l.toArray (fun w' => ∃ n : Lat w, w' = n.x) (fun a' => ∀ w', Below w.heap.size w w' → wpList P l.toArray Q [o] a' w') init a) : (Code.region id l.toArray true).wp P Q a wn := by
  have h1 := h ⟨⟨w, Below.refl _ _⟩⟩ Lat.cell
  have hne : l ≠ [] := by intro e; rw [e] at ho; cases ho
  have hl : l = init ++ [o] := by
    rw [← hi]
    rw [List.getLast?_eq_some_getLast hne] at ho
    rw [← Option.some.inj ho]; exact (List.dropLast_concat_getLast hne).symm
  simp only [lastB, Bool.and_eq_true] at hB
  obtain ⟨⟨⟨⟨hg, hd⟩, hw⟩, hac⟩, hlex⟩ := hB
  have hg' : o.guard = none := by simpa using hg
  have hd' : o.dst = none := by simpa using hd
  have hlen : l.length = init.length + 1 := by rw [hl]; simp
  have hn : l.toArray[init.length]? = some o := by rw [hl]; simp
  have hset : l.toArray.setIfInBounds init.length (blanked o) = (init ++ [blanked o]).toArray := by
    rw [hl]; simp
  have hy : ∀ tmps, yielded (init ++ [blanked o]).toArray tmps = yielded l.toArray tmps := by
    intro tmps; rw [← hset]; exact yielded_blank hn tmps
  rw [hi] at hlex
  simp only [Region.lexB, Bool.and_eq_true] at hlex
  have h2 := wpQuiet_snoc (o := o) hg' hd' init a (wpQuiet_congr hy init a h1)
  have h3 := wpAnyQ_lex (C := fun w' => ∃ n : Lat w, w' = n.x) (md := .any) hlex.1 (init ++ [blanked o]) 0 (Array.replicate (init ++ [blanked o]).toArray.size false) a (by simp) (by simpa using hlex.2) h2
  refine wp_region_any hm ?_
  have hQ : ∀ (a : Act) (w1 : World), (∃ n : Lat w, w1 = n.x) → (∀ w', Below w.heap.size w w' → wpList P l.toArray Q [o] a w') → (o.wp P a w1 (fun a' w' => Q .normal a' w') Q ∨ (o.asks P a w1 ∧ LetsOut Q)) := by
    intro a w1 hC hq
    have := (lat_all w (fun w' => wpList P l.toArray Q [o] a w')).2 hq w1 hC
    have hwa : Region.wanted o (yielded l.toArray a.tmps) = true := by simp [Region.wanted, hg']
    simp only [wpList, hwa, if_true] at this
    exact this
  have h4 := wpAny_of_quiet_last (P := P) (C := fun w' => ∃ n : Lat w, w' = n.x) (md := .any) hn (by simp [hlen]) (by
      intro i hi'
      have := List.all_eq_true.1 hw i (List.mem_range.2 (by omega))
      obtain ⟨e, he, hb⟩ := Array.any_eq_true'.1 this
      simp only [Bool.and_eq_true, beq_iff_eq] at hb
      exact ⟨e, he, hb.1, hb.2⟩) (by
      intro i p hp e he
      have hlt : i < l.length := by have := (Array.getElem?_eq_some_iff.1 hp).1; simpa using this
      have := List.all_eq_true.1 hac i (List.mem_range.2 hlt)
      have hp' : l[i]? = some p := by simpa using hp
      rw [hp'] at this
      simp only [Option.map_some, Option.getD_some] at this
      have := Array.all_eq_true_iff_forall_mem.1 this e he
      simpa using this) hg' hd' hQ l.toArray.size (Array.replicate l.toArray.size false) a { wn with drawn := wn.drawn + 1 } (by simp) (by simp [hlen]) ⟨⟨wn.drew, h0.drew⟩, rfl⟩ (by
      rw [hset]; simpa [hlen] using h3)
  exact h4
end
theorem bcell {W w1 : World} (hb : Below W.heap.size W w1) : (∀ b o, b < W.heap.size → w1.cell? ⟨b, o, none⟩ = W.cell? ⟨b, o, none⟩) ∧ (∀ b o, b < W.heap.size → w1.frozen? ⟨b, o, none⟩ = W.frozen? ⟨b, o, none⟩) :=
  ⟨fun b o h => hb.cell (p := ⟨b, o, none⟩) h, fun b o h => hb.frozen (p := ⟨b, o, none⟩) h⟩
theorem below_under {w w1 : World} {o : Obj} (hb : Below (w.alloc o).heap.size (w.alloc o) w1) : Below w.heap.size w w1 :=
  ((Below.refl _ _).alloc (Nat.le_refl _) _).trans (hb.mono (by simp))
theorem below_later {w w1 w2 : World} (h1 : Below w.heap.size w w1) (h2 : Below w1.heap.size w1 w2) : Below w.heap.size w w2 := h1.trans (h2.mono h1.size)
theorem below_box (w : World) (o : Obj) : Below w.heap.size w (w.alloc o) := (Below.refl _ _).alloc (Nat.le_refl _) _
theorem ret_int {k : IntKind} {a b : Int} (h : a = b) : Ending.returned (.int k a) = .returned (.int k b) := by rw [h]
theorem ret_bool {a b : Bool} (h : a = b) : Ending.returned (.bool a) = .returned (.bool b) := by rw [h]
theorem hid_in {p : Prop} (h : p) : Hid p := h
end Go.LatT
