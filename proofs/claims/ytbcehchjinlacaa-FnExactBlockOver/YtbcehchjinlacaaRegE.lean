/- What is proved: a region of Go text whose order of evaluation is open may be walked once, in the order of the text, where its operations read what the class of worlds says, its callees keep the class, and what it makes anew stays as it was made; its last operation, a store, waits for all others. The conditions stand at the theorems. -/
import Derived.Test.YtbcehchjinlacaaLat
namespace Go.RegE
open Go.RowKit Go.LatT
section
variable {P : Program} {ops : Array Oper} {md : Region.Mode} {C : Nat → World → Prop} {H N : Nat} {Post : FuncId → Array Value → Value → Prop}

/-- What was made anew, and lies there. -/
def Held (H : Nat) (w : World) (p : Nat × Obj) : Prop := H ≤ p.1 ∧ w.heap[p.1]? = some p.2
/-- Blocks from H on are as they were. -/
def Keep (H : Nat) (w w' : World) : Prop := ∀ g, H ≤ g → g < w.heap.size → w'.heap[g]? = w.heap[g]?
/-- What is asked of a callee. -/
def Contract (P : Program) (C : Nat → World → Prop) (H N : Nat) (Post : FuncId → Array Value → Value → Prop) (f : FuncId) (args : Array Value) : Prop :=
  ∀ n w, n < N → C n w → Calls P f args w fun e w'' => ∃ u, e = .returned u ∧ Post f args u ∧ C (n + 1) w'' ∧ Keep H w w''
def goodRun (P : Program) (C : Nat → World → Prop) (H N : Nat) (Post : FuncId → Array Value → Value → Prop) (w : World) : Result Next → Prop
  | .ok (.value _) w' => w' = w ∨ ∃ o, w' = w.alloc o
  | .ok .skip w' => w' = w
  | .ok (.enter f args) w' => w' = w ∧ Contract P C H N Post f args
  | _ => False
def outRun (Post : FuncId → Array Value → Value → Prop) (w : World) (v : Value) (add : List (Nat × Obj)) : Result Next → Prop
  | .ok (.value u) w' => v = u ∧ ((w' = w ∧ add = []) ∨ ∃ o, w' = w.alloc o ∧ add = [(w.heap.size, o)])
  | .ok .skip _ => v = undef ∧ add = []
  | .ok (.enter f args) _ => Post f args v ∧ add = []
  | _ => False
def Good (P : Program) (C : Nat → World → Prop) (H N : Nat) (Post : FuncId → Array Value → Value → Prop) (x : Sem Next) : Prop := ∀ n w, C n w → goodRun P C H N Post w (x.run P w)
def Out (P : Program) (C : Nat → World → Prop) (Post : FuncId → Array Value → Value → Prop) (x : Sem Next) (v : Value) (add : List (Nat × Obj)) : Prop := ∃ n w, C n w ∧ outRun Post w v add (x.run P w)
def GoodW (P : Program) (C : Nat → World → Prop) (H N : Nat) (Post : FuncId → Array Value → Value → Prop) (ops : Array Oper) (o : Oper) (a : Act) : Prop :=
  Region.wanted o (yielded ops a.tmps) = true → Good P C H N Post (execOp a.eval o)
def OutW (P : Program) (C : Nat → World → Prop) (Post : FuncId → Array Value → Value → Prop) (ops : Array Oper) (o : Oper) (a : Act) (v : Value) (add : List (Nat × Obj)) : Prop :=
  if Region.wanted o (yielded ops a.tmps) = true then Out P C Post (execOp a.eval o) v add else v = undef ∧ add = []

/-- The walk in the order of the text. -/
def wpE (P : Program) (C : Nat → World → Prop) (H N : Nat) (Post : FuncId → Array Value → Value → Prop) (ops : Array Oper) (T : List (Nat × Obj) → Act → Prop) : List Oper → List (Nat × Obj) → Act → Prop
  | [], gs, a => T gs a
  | o :: rest, gs, a => GoodW P C H N Post ops o a ∧ ∀ v add, OutW P C Post ops o a v add → wpE P C H N Post ops T rest (add ++ gs) (a.put o.dst v)
/-- In whatever order. -/
def wpAnyE (P : Program) (md : Region.Mode) (C : Nat → World → Prop) (H N : Nat) (Post : FuncId → Array Value → Value → Prop) (ops : Array Oper) (T : List (Nat × Obj) → Act → Prop) : Nat → Array Bool → List (Nat × Obj) → Act → Prop
  | 0, listed, gs, a => Region.ready md ops listed = [] ∧ T gs a
  | f + 1, listed, gs, a => (Region.ready md ops listed = [] → T gs a) ∧ ∀ i ∈ Region.ready md ops listed, ∀ o, ops[i]? = some o →
      GoodW P C H N Post ops o a ∧ ∀ v add, OutW P C Post ops o a v add → wpAnyE P md C H N Post ops T f (listed.setIfInBounds i true) (add ++ gs) (a.put o.dst v)

theorem wpAnyE_mono {T : List (Nat × Obj) → Act → Prop} (hT : ∀ gs gs' a, (∀ p ∈ gs, p ∈ gs') → T gs a → T gs' a) :
    ∀ (f : Nat) (listed : Array Bool) (gs gs' : List (Nat × Obj)) (a : Act), (∀ p ∈ gs, p ∈ gs') → wpAnyE P md C H N Post ops T f listed gs a → wpAnyE P md C H N Post ops T f listed gs' a
  | 0, _, _, _, _, hs, h => ⟨h.1, hT _ _ _ hs h.2⟩
  | f + 1, _, gs, gs', _, hs, h => ⟨fun h0 => hT _ _ _ hs (h.1 h0), fun i hi o ho => ⟨(h.2 i hi o ho).1, fun v add hv => wpAnyE_mono hT f _ (add ++ gs) (add ++ gs') _
      (fun p hp => by rcases List.mem_append.1 hp with h1 | h1; exact List.mem_append_left _ h1; exact List.mem_append_right _ (hs p h1)) ((h.2 i hi o ho).2 v add hv)⟩⟩

theorem out_some {x : Sem Next} {n : Nat} {w : World} (hn : n < N) (hC : C n w) (hg : Good P C H N Post x) : ∃ v add, Out P C Post x v add := by
  have h := hg n w hC
  cases hr : x.run P w with
  | halt y w' => rw [hr] at h; cases h
  | ok y w' =>
    rw [hr] at h
    cases y with
    | value u =>
      rcases h with h | ⟨o, h⟩
      · exact ⟨u, [], n, w, hC, by rw [hr]; exact ⟨rfl, .inl ⟨h, rfl⟩⟩⟩
      · exact ⟨u, _, n, w, hC, by rw [hr]; exact ⟨rfl, .inr ⟨o, h, rfl⟩⟩⟩
    | skip => exact ⟨undef, [], n, w, hC, by rw [hr]; exact ⟨rfl, rfl⟩⟩
    | enter f args =>
      obtain ⟨_, hc⟩ := h
      obtain ⟨e, w'', fr, ⟨u, _, hu, _⟩, _⟩ := hc n w hn hC []
      exact ⟨u, [], n, w, hC, by rw [hr]; exact ⟨hu, rfl⟩⟩
    | defer d => cases h
    | row r args => cases h
    | _ => cases h

theorem outW_some {o : Oper} {a : Act} {n : Nat} {w : World} (hn : n < N) (hC : C n w) (hg : GoodW P C H N Post ops o a) : ∃ v add, OutW P C Post ops o a v add := by
  unfold OutW
  by_cases hw : Region.wanted o (yielded ops a.tmps) = true
  · obtain ⟨v, add, h⟩ := out_some hn hC (hg hw)
    exact ⟨v, add, by rw [if_pos hw]; exact h⟩
  · exact ⟨undef, [], by rw [if_neg hw]; exact ⟨rfl, rfl⟩⟩

theorem goodW_put {o : Oper} {a : Act} {dst : Option Tmp} {v : Value} (hs : ∀ cs b, o.op ≠ .select cs b) (h : ∀ d, dst = some d → d ∉ o.looksAt ops) :
    GoodW P C H N Post ops o (a.put dst v) ↔ GoodW P C H N Post ops o a := by
  unfold GoodW; rw [execOp_put o hs a dst v h, wanted_put o a dst v h]
theorem outW_put {o : Oper} {a : Act} {dst : Option Tmp} {v u : Value} {add : List (Nat × Obj)} (hs : ∀ cs b, o.op ≠ .select cs b) (h : ∀ d, dst = some d → d ∉ o.looksAt ops) :
    OutW P C Post ops o (a.put dst v) u add ↔ OutW P C Post ops o a u add := by
  unfold OutW; rw [execOp_put o hs a dst v h, wanted_put o a dst v h]

theorem wpAnyE_first {T : List (Nat × Obj) → Act → Prop} (hT : ∀ gs gs' a, (∀ p ∈ gs, p ∈ gs') → T gs a → T gs' a) {n0 : Nat} {w0 : World} (hn0 : n0 < N) (hC0 : C n0 w0)
    (hsel : ∀ (j : Nat) (o : Oper) cs b, ops[j]? = some o → o.op ≠ .select cs b) {i : Nat} {oi : Oper} (hi : ops[i]? = some oi) :
    ∀ (f : Nat) (listed : Array Bool) (gs : List (Nat × Obj)) (a : Act),
      (∀ (j : Nat) (oj : Oper), ops[j]? = some oj → j ≠ i → listed.getD j true = false → (∀ e ∈ oj.after, Region.binds md e = true → e.on ≠ i) → oi.apart ops oj = true) →
      i ∈ Region.ready md ops listed → GoodW P C H N Post ops oi a →
      (∀ v add, OutW P C Post ops oi a v add → wpAnyE P md C H N Post ops T f (listed.setIfInBounds i true) (add ++ gs) (a.put oi.dst v)) →
      wpAnyE P md C H N Post ops T (f + 1) listed gs a := by
  intro f
  induction f with
  | zero =>
    intro listed gs a hfree hr hg hrest
    refine ⟨fun h0 => (by rw [h0] at hr; cases hr), fun k hk ok hok => ?_⟩
    by_cases hki : k = i
    · subst hki
      have : ok = oi := Option.some.inj (hok.symm.trans hi)
      subst this; exact ⟨hg, hrest⟩
    · obtain ⟨v0, add0, hv0⟩ := outW_some hn0 hC0 hg
      have hx := (hrest v0 add0 hv0).1
      have := ready_mono hk hki
      rw [hx] at this; cases this
  | succ f ih =>
    intro listed gs a hfree hr hg hrest
    refine ⟨fun h0 => (by rw [h0] at hr; cases hr), fun k hk ok hok => ?_⟩
    by_cases hki : k = i
    · subst hki
      have : ok = oi := Option.some.inj (hok.symm.trans hi)
      subst this; exact ⟨hg, hrest⟩
    · obtain ⟨hun, ok', hok', hall⟩ := mem_ready.1 hk
      have : ok' = ok := Option.some.inj (hok'.symm.trans hok)
      subst this
      have hiun : listed.getD i true = false := (mem_ready.1 hr).1
      have hap := hfree k ok' hok hki hun (fun e he hb hon => by
        have h2 := hall e he hb
        rw [hon] at h2
        rcases Nat.lt_or_ge i listed.size with h' | h'
        · simp [h'] at h2 hiun; rw [hiun] at h2; cases h2
        · simp [Array.getElem?_eq_none h'] at h2)
      obtain ⟨h1, h2, h3⟩ := Oper.apart_spec hap
      have sk := fun cs b => hsel k ok' cs b hok
      have si := fun cs b => hsel i oi cs b hi
      obtain ⟨v0, add0, hv0⟩ := outW_some hn0 hC0 hg
      have hx := (hrest v0 add0 hv0).2 k (ready_mono hk hki) ok' hok
      refine ⟨(goodW_put sk h1).1 hx.1, fun u addk hu => ?_⟩
      refine ih (listed.setIfInBounds k true) (addk ++ gs) (a.put ok'.dst u) (fun j oj hj hne hunj hno => ?_) (ready_mono hr (Ne.symm hki)) ((goodW_put si h3).2 hg) (fun v add hv => ?_)
      · by_cases hkj : k = j
        · subst hkj
          have : oj = ok' := Option.some.inj (hj.symm.trans hok)
          subst this; exact hap
        · exact hfree j oj hj hne (by rw [getD_set_ne true hkj] at hunj; exact hunj) hno
      · have hv' := (outW_put si h3).1 hv
        have hy := ((hrest v add hv').2 k (ready_mono hk hki) ok' hok).2 u addk ((outW_put sk h1).2 hu)
        rw [Array.setIfInBounds_comm _ _ hki, ← Act.put_comm a v u h2]
        refine wpAnyE_mono hT f _ _ _ _ (fun p hp => ?_) hy
        simp only [List.mem_append] at hp ⊢
        rcases hp with h | h | h
        · exact .inr (.inl h)
        · exact .inl h
        · exact .inr (.inr h)

theorem wpAnyE_lex {T : List (Nat × Obj) → Act → Prop} (hT : ∀ gs gs' a, (∀ p ∈ gs, p ∈ gs') → T gs a → T gs' a) {n0 : Nat} {w0 : World} (hn0 : n0 < N) (hC0 : C n0 w0) (hs : Region.noSelect ops = true) :
    ∀ (l : List Oper) (k : Nat) (listed : Array Bool) (gs : List (Nat × Obj)) (a : Act), (∀ j, l[j]? = ops[k + j]?) →
    Region.lexFrom md ops l.length k listed = true → wpE P C H N Post ops T l gs a → wpAnyE P md C H N Post ops T l.length listed gs a
  | [], _, _, _, _, _, hB, h => ⟨by simpa [Region.lexFrom] using hB, h⟩
  | o :: l, k, listed, gs, a, hl, hB, h => by
    have h0 : ops[k]? = some o := by simpa using (hl 0).symm
    simp only [List.length_cons, Region.lexFrom, Bool.and_eq_true] at hB
    obtain ⟨⟨hr, hf⟩, hB'⟩ := hB
    exact wpAnyE_first hT hn0 hC0 (Region.noSelect_spec hs) h0 l.length listed gs a (Region.free_spec h0 hf) (by simpa using hr) h.1
      (fun v add hv => wpAnyE_lex hT hn0 hC0 hs l (k + 1) _ _ _ (fun j => by have := hl (j + 1); simpa [Nat.add_assoc, Nat.add_comm 1 j] using this) hB' (h.2 v add hv))

theorem held_alloc {w : World} {p : Nat × Obj} (o : Obj) (h : Held H w p) : Held H (w.alloc o) p := by
  refine ⟨h.1, ?_⟩
  have hlt : p.1 < w.heap.size := (Array.getElem?_eq_some_iff.1 h.2).1
  rw [Below.heap_alloc _ _ _ hlt]; exact h.2
theorem held_new {w : World} (o : Obj) (h : H ≤ w.heap.size) : Held H (w.alloc o) (w.heap.size, o) := by
  refine ⟨h, ?_⟩
  show (w.heap.push o)[w.heap.size]? = some o
  simp
theorem held_keep {w w' : World} {p : Nat × Obj} (k : Keep H w w') (h : Held H w p) : Held H w' p := by
  refine ⟨h.1, ?_⟩
  rw [k p.1 h.1 (Array.getElem?_eq_some_iff.1 h.2).1]; exact h.2

/-- One operation of the real region, by what the walk says of it. -/
theorem wpOp_of_E {Q' : Exit → Act → World → Prop} {K : Act → World → Prop} {i : Nat} {o : Oper} {a : Act} {w : World} {m : Nat} {gs : List (Nat × Obj)} {R : List (Nat × Obj) → Act → Prop}
    (hCa : ∀ n w o, C n w → C n (w.alloc o)) (hCH : ∀ n w, C n w → H ≤ w.heap.size) (hi : ops[i]? = some o) (hC : C m w) (hm : m < N) (hh : ∀ p ∈ gs, Held H w p)
    (hg : GoodW P C H N Post ops o a) (hR : ∀ v add, OutW P C Post ops o a v add → R (add ++ gs) (a.put o.dst v))
    (hK : ∀ gs' a' w' m', m' ≤ m + 1 → C m' w' → (∀ p ∈ gs', Held H w' p) → R gs' a' → K a' w') : wpOp P ops Q' i K a w := by
  unfold wpOp
  rw [hi]
  by_cases hw : Region.wanted o (yielded ops a.tmps) = true
  · simp only [hw, if_true]
    left
    have h := hg hw m w hC
    have hR' : ∀ v add, Out P C Post (execOp a.eval o) v add → R (add ++ gs) (a.put o.dst v) := fun v add hv => hR v add (by unfold OutW; rw [if_pos hw]; exact hv)
    unfold Oper.wp
    cases hr : (execOp a.eval o).run P w with
    | halt y w' => rw [hr] at h; cases h
    | ok y w' =>
      rw [hr] at h
      cases y with
      | value u =>
        rcases h with h | ⟨ob, h⟩
        · subst h
          exact hK gs _ _ m (by omega) hC hh (hR' u [] ⟨m, _, hC, by rw [hr]; exact ⟨rfl, .inl ⟨rfl, rfl⟩⟩⟩)
        · subst h
          refine hK _ _ _ m (by omega) (hCa m w ob hC) ?_ (hR' u [(w.heap.size, ob)] ⟨m, w, hC, by rw [hr]; exact ⟨rfl, .inr ⟨ob, rfl, rfl⟩⟩⟩)
          intro p hp
          rcases List.mem_append.1 hp with h1 | h1
          · have : p = (w.heap.size, ob) := by simpa using h1
            subst this; exact held_new ob (hCH m w hC)
          · exact held_alloc ob (hh p h1)
      | skip =>
        have h' : w' = w := h
        subst h'
        exact hK gs _ _ m (by omega) hC hh (hR' undef [] ⟨m, _, hC, by rw [hr]; exact ⟨rfl, rfl⟩⟩)
      | enter f args =>
        obtain ⟨h', hc⟩ := h
        subst h'
        refine (hc m _ hm hC).mono ?_
        rintro e w'' ⟨u, rfl, hu, hC', hk⟩
        exact hK gs _ _ (m + 1) (Nat.le_refl _) hC' (fun p hp => held_keep hk (hh p hp)) (hR' u [] ⟨m, _, hC, by rw [hr]; exact ⟨hu, rfl⟩⟩)
      | defer d => cases h
      | row r args => cases h
      | _ => cases h
  · simp only [hw]
    exact hK gs _ _ m (by omega) hC hh (hR undef [] (by unfold OutW; rw [if_neg hw]; exact ⟨rfl, rfl⟩))

/-- The whole region, its last operation by itself. -/
theorem wpAny_of_E {n : Nat} {o : Oper} (hn : ops[n]? = some o) (hsz : ops.size = n + 1) (hwait : ∀ i, i < n → ∃ e ∈ o.after, Region.binds md e = true ∧ e.on = i)
    (hac : ∀ (i : Nat) (o : Oper), ops[i]? = some o → ∀ e ∈ o.after, e.on < i) (hg : o.guard = none) (hdst : o.dst = none)
    (hCa : ∀ n w o, C n w → C n (w.alloc o)) (hCH : ∀ n w, C n w → H ≤ w.heap.size) {T : List (Nat × Obj) → Act → Prop}
    {Q' : Exit → Act → World → Prop} (hQ : ∀ gs a w m, C m w → (∀ p ∈ gs, Held H w p) → T gs a → (o.wp P a w (fun a' w' => Q' .normal a' w') Q' ∨ (o.asks P a w ∧ LetsOut Q'))) :
    ∀ (fuel : Nat) (listed : Array Bool) (gs : List (Nat × Obj)) (a : Act) (w : World) (m : Nat), listed.size = ops.size → listed.getD n true = false → C m w → m + fuel ≤ N → (∀ p ∈ gs, Held H w p) →
      wpAnyE P md C H N Post (ops.setIfInBounds n (blanked o)) T fuel listed gs a → wpAny P md ops Q' fuel listed a w
  | 0, listed, gs, a, w, m, hls, hu, hC, hm, hh, h => by
    have h0 := h.1
    rw [ready_blank hn] at h0
    exact absurd h0 (some_ready hac hls n n (Nat.le_refl _) (by omega) hu)
  | fuel + 1, listed, gs, a, w, m, hls, hu, hC, hm, hh, h => by
    refine ⟨fun h0 => absurd h0 (some_ready hac hls n n (Nat.le_refl _) (by omega) hu), fun i hi => ?_⟩
    have hi' : i ∈ Region.ready md (ops.setIfInBounds n (blanked o)) listed := by rw [ready_blank hn]; exact hi
    by_cases hin : i = n
    · subst hin
      have hall : ∀ j, j < i → listed.getD j false = true := by
        intro j hj
        obtain ⟨_, o', ho', ha⟩ := mem_ready.1 hi
        have : o' = o := Option.some.inj (ho'.symm.trans hn)
        subst this
        obtain ⟨e, he, hb, hon⟩ := hwait j hj
        rw [← hon]; exact ha e he hb
      have hdone : Region.ready md ops (listed.setIfInBounds i true) = [] := by
        apply List.eq_nil_iff_forall_not_mem.2
        intro j hj
        obtain ⟨hun, o', ho', _⟩ := mem_ready.1 hj
        have hjlt : j < ops.size := (Array.getElem?_eq_some_iff.1 ho').1
        by_cases hji : i = j
        · subst hji
          have : i < listed.size := by omega
          simp [this] at hun
        · rw [getD_set_ne true hji] at hun
          have h3 := hall j (by omega)
          have hs : j < listed.size := by omega
          simp [hs] at hun h3
          rw [hun] at h3; cases h3
      have hT : T gs a := by
        have h2 := (h.2 i hi' (blanked o) (by rw [at_blank hn, if_pos rfl])).2 (.bool true) [] (by
          unfold OutW
          have hw : Region.wanted (blanked o) (yielded (ops.setIfInBounds i (blanked o)) a.tmps) = true := by simp [Region.wanted, blanked, hg]
          rw [if_pos hw]
          refine ⟨m, w, hC, ?_⟩
          rw [BigFrame.run_move (.const (.bool true)) rfl]
          exact ⟨rfl, .inl ⟨rfl, rfl⟩⟩)
        have hput : a.put (blanked o).dst (.bool true) = a := by simp [blanked, hdst, Act.put]
        rw [hput, List.nil_append] at h2
        have hd : Region.ready md (ops.setIfInBounds i (blanked o)) (listed.setIfInBounds i true) = [] := by rw [ready_blank hn]; exact hdone
        cases fuel with
        | zero => exact h2.2
        | succ f => exact h2.1 hd
      unfold wpOp
      rw [hn]
      have hw : Region.wanted o (yielded ops a.tmps) = true := by simp [Region.wanted, hg]
      simp only [hw, if_true]
      exact (hQ gs a w m hC hh hT).imp (fun h5 => Oper.wp_mono (fun a' w' h' => wpAny_stop hdone fuel a' w' h') h5) (fun h5 => h5)
    · obtain ⟨_, oi, hoi, _⟩ := mem_ready.1 hi
      have hoi' : (ops.setIfInBounds n (blanked o))[i]? = some oi := by rw [at_blank hn, if_neg hin]; exact hoi
      have h2 := h.2 i hi' oi hoi'
      have hg2 : GoodW P C H N Post ops oi a := by have := h2.1; unfold GoodW at this ⊢; rw [yielded_blank hn] at this; exact this
      refine wpOp_of_E hCa hCH hoi hC (by omega) hh hg2 (R := fun gs' a' => wpAnyE P md C H N Post (ops.setIfInBounds n (blanked o)) T fuel (listed.setIfInBounds i true) gs' a') (fun v add hv => ?_) (fun gs' a' w' m' hm' hC' hh' hR' => ?_)
      · exact h2.2 v add (by unfold OutW at hv ⊢; rw [yielded_blank hn]; exact hv)
      · exact wpAny_of_E hn hsz hwait hac hg hdst hCa hCH hQ fuel _ gs' a' w' m' (by simp [hls]) (by rw [getD_set_ne true hin]; exact hu) hC' (by omega) hh' hR'

theorem wpE_congr {T : List (Nat × Obj) → Act → Prop} {ops' : Array Oper} (hy : ∀ tmps, yielded ops' tmps = yielded ops tmps) : ∀ (l : List Oper) (gs : List (Nat × Obj)) (a : Act), wpE P C H N Post ops T l gs a → wpE P C H N Post ops' T l gs a
  | [], _, _, h => h
  | o :: l, gs, a, h => by
    refine ⟨?_, fun v add hv => ?_⟩
    · have := h.1; unfold GoodW at this ⊢; rw [hy]; exact this
    · exact wpE_congr hy l _ _ (h.2 v add (by unfold OutW at hv ⊢; rw [hy] at hv; exact hv))

theorem wpE_snoc {T : List (Nat × Obj) → Act → Prop} {o : Oper} (hg : o.guard = none) (hd : o.dst = none) : ∀ (l : List Oper) (gs : List (Nat × Obj)) (a : Act), wpE P C H N Post ops T l gs a → wpE P C H N Post ops T (l ++ [blanked o]) gs a
  | [], gs, a, h => by
    have hput : ∀ v, a.put (blanked o).dst v = a := by intro v; simp [blanked, hd, Act.put]
    refine ⟨fun _ n w _ => ?_, fun v add hv => ?_⟩
    · rw [BigFrame.run_move (.const (.bool true)) rfl]; exact .inl rfl
    · unfold OutW at hv
      have hw : Region.wanted (blanked o) (yielded ops a.tmps) = true := by simp [Region.wanted, blanked, hg]
      rw [if_pos hw] at hv
      obtain ⟨n, w, _, hv⟩ := hv
      rw [BigFrame.run_move (.const (.bool true)) rfl] at hv
      rcases hv with ⟨_, ⟨_, ha⟩ | ⟨ob, hb, _⟩⟩
      · subst ha; rw [hput]; exact h
      · have := congrArg (fun x : World => x.heap.size) hb
        simp at this
  | p :: l, gs, a, h => ⟨h.1, fun v add hv => wpE_snoc hg hd l _ _ (h.2 v add hv)⟩

/-- A region that draws its order, its last operation a store: one walk, in the text's order. -/
theorem wp_region_E {id : Nat} {Q : Exit → Act → World → Prop} {a : Act} {wn : World} {l init : List Oper} {o : Oper} (C : Nat → World → Prop) (H : Nat) (Post : FuncId → Array Value → Value → Prop)
    (hm : P.follows .mixedOrders = true) (hi : l.dropLast = init) (ho : l.getLast? = some o) (hB : lastB l o = true)
    (hC0 : C 0 wn.drew) (hCa : ∀ n w o, C n w → C n (w.alloc o)) (hCH : ∀ n w, C n w → H ≤ w.heap.size)
    (h : wpE P C H l.length Post l.toArray (fun gs a' => ∀ m w, C m w → (∀ p ∈ gs, Held H w p) → wpList P l.toArray Q [o] a' w) init [] a) : (Code.region id l.toArray true).wp P Q a wn := by
  have hne : l ≠ [] := by intro e; rw [e] at ho; cases ho
  have hl : l = init ++ [o] := by
    rw [← hi]
    rw [List.getLast?_eq_some_getLast hne] at ho
    rw [← Option.some.inj ho]; exact (List.dropLast_concat_getLast hne).symm
  simp only [lastB, Bool.and_eq_true] at hB
  obtain ⟨⟨⟨⟨hg, hd⟩, hw⟩, hac⟩, hlex⟩ := hB
  have hg' : o.guard = none := by simpa using hg
  have hd' : o.dst = none := by simpa using hd
  have hlen : l.length = init.length + 1 := by rw [hl]; simp
  have hn : l.toArray[init.length]? = some o := by rw [hl]; simp
  have hset : l.toArray.setIfInBounds init.length (blanked o) = (init ++ [blanked o]).toArray := by
    rw [hl]; simp
  have hy : ∀ tmps, yielded (init ++ [blanked o]).toArray tmps = yielded l.toArray tmps := by
    intro tmps; rw [← hset]; exact yielded_blank hn tmps
  rw [hi] at hlex
  simp only [Region.lexB, Bool.and_eq_true] at hlex
  have h2 := wpE_snoc (o := o) hg' hd' init [] a (wpE_congr hy init [] a h)
  have hTm : ∀ (gs gs' : List (Nat × Obj)) (a : Act), (∀ p ∈ gs, p ∈ gs') → (∀ m w, C m w → (∀ p ∈ gs, Held H w p) → wpList P l.toArray Q [o] a w) → (∀ m w, C m w → (∀ p ∈ gs', Held H w p) → wpList P l.toArray Q [o] a w) :=
    fun gs gs' a hs h m w hC hh => h m w hC (fun p hp => hh p (hs p hp))
  have h3 := wpAnyE_lex (md := .any) hTm (n0 := 0) (N := l.length) (by omega) hC0 hlex.1 (init ++ [blanked o]) 0 (Array.replicate (init ++ [blanked o]).toArray.size false) [] a (by simp) (by simpa using hlex.2) h2
  refine wp_region_any hm ?_
  have hQ : ∀ (gs : List (Nat × Obj)) (a : Act) (w : World) (m : Nat), C m w → (∀ p ∈ gs, Held H w p) → (∀ m w, C m w → (∀ p ∈ gs, Held H w p) → wpList P l.toArray Q [o] a w) →
      (o.wp P a w (fun a' w' => Q .normal a' w') Q ∨ (o.asks P a w ∧ LetsOut Q)) := by
    intro gs a w m hC hh hq
    have := hq m w hC hh
    have hwa : Region.wanted o (yielded l.toArray a.tmps) = true := by simp [Region.wanted, hg']
    simp only [wpList, hwa, if_true] at this
    exact this
  exact wpAny_of_E (md := .any) (N := l.length) hn (by simp [hlen]) (by
      intro i hi'
      have := List.all_eq_true.1 hw i (List.mem_range.2 (by omega))
      obtain ⟨e, he, hb⟩ := Array.any_eq_true'.1 this
      simp only [Bool.and_eq_true, beq_iff_eq] at hb
      exact ⟨e, he, hb.1, hb.2⟩) (by
      intro i p hp e he
      have hlt : i < l.length := by have := (Array.getElem?_eq_some_iff.1 hp).1; simpa using this
      have := List.all_eq_true.1 hac i (List.mem_range.2 hlt)
      have hp' : l[i]? = some p := by simpa using hp
      rw [hp'] at this
      simp only [Option.map_some, Option.getD_some] at this
      have := Array.all_eq_true_iff_forall_mem.1 this e he
      simpa using this) hg' hd' hCa hCH hQ l.toArray.size (Array.replicate l.toArray.size false) [] a { wn with drawn := wn.drawn + 1 } 0 (by simp) (by simp [hlen]) hC0 (by simp) (by simp) (by
      rw [hset]; simpa [hlen] using h3)

/-- A world of the class. -/
structure LatC (C : Nat → World → Prop) where
  n : Nat
  x : World
  h : C n x
/-- Operations that never enter a function. -/
def plainB : Op → Bool
  | .move _ | .assign _ | .pick _ _ _ | .build _ _ | .load _ _ | .binOp _ _ _ _ _ | .unOp _ _ _ | .convert _ _ _ | .fieldAddr _ _ _ | .field _ _ _ | .indexAddr _ _ _ | .index _ _ _ | .slice _ _ _ _ _ | .extract _ _ => true
  | _ => false
theorem value_not {α : Type} {s : Sem α} {g : α → Value} (w w' : World) (f : FuncId) (args : Array Value) : Sem.run P (s >>= fun x => pure (Next.value (g x))) w ≠ .ok (.enter f args) w' := by
  rw [Sem.run_bind]
  intro h
  cases hs : s.run P w with
  | ok x w1 =>
    rw [hs] at h
    have h2 : (Result.ok (Next.value (g x)) w1 : Result Next) = .ok (.enter f args) w' := h
    cases h2
  | halt x w1 => rw [hs] at h; cases h
theorem plain_not {o : Oper} (hp : plainB o.op = true) (ρ : Operand → Value) (w w' : World) (f : FuncId) (args : Array Value) : (execOp ρ o).run P w ≠ .ok (.enter f args) w' := by
  unfold execOp
  cases ho : o.op <;> rw [ho] at hp <;> first | (simp [plainB] at hp; done) | exact value_not (g := id) w w' f args | exact value_not w w' f args | (intro h; cases h; done) | skip

section
variable {T : List (Nat × Obj) → Act → Prop} {o : Oper} {rest : List Oper} {gs : List (Nat × Obj)} {a : Act}
theorem alloc_ne (w : World) (ob : Obj) : w.alloc ob ≠ w := by
  intro h
  have := congrArg (fun x : World => x.heap.size) h
  simp at this
/-- One operation that only reads, by the walk of quiet regions. -/
theorem wpE_one (hp : plainB o.op = true) (h : wpQuiet P ops (fun w' => ∃ l : LatC C, w' = l.x) (fun a' => wpE P C H N Post ops T rest gs a') [o] a) : wpE P C H N Post ops T (o :: rest) gs a := by
  simp only [wpQuiet] at h
  by_cases hw : Region.wanted o (yielded ops a.tmps) = true
  · simp only [hw, if_true] at h
    obtain ⟨v, h1, h2⟩ := h
    refine ⟨fun _ n w hC => ?_, fun u add hu => ?_⟩
    · have h3 := h1 w ⟨⟨n, w, hC⟩, rfl⟩
      unfold Oper.quietAt at h3
      cases hr : (execOp a.eval o).run P w with
      | halt y w' => rw [hr] at h3; cases h3
      | ok y w' =>
        rw [hr] at h3
        cases y with
        | value x => exact .inl h3.1
        | skip => exact h3.1
        | enter f args => exact absurd hr (plain_not hp _ _ _ _ _)
        | defer d => cases h3
        | row r args => cases h3
        | _ => cases h3
    · unfold OutW at hu
      rw [if_pos hw] at hu
      obtain ⟨n, w, hC, hu⟩ := hu
      have h3 := h1 w ⟨⟨n, w, hC⟩, rfl⟩
      unfold Oper.quietAt at h3
      cases hr : (execOp a.eval o).run P w with
      | halt y w' => rw [hr] at h3; cases h3
      | ok y w' =>
        rw [hr] at h3 hu
        cases y with
        | value x =>
          obtain ⟨e1, e2⟩ := h3
          obtain ⟨e3, ⟨_, e4⟩ | ⟨ob, e4, _⟩⟩ := hu
          · rw [e3, e4, e2]; exact h2
          · exact absurd (e4.symm.trans e1) (alloc_ne w ob)
        | skip =>
          obtain ⟨e1, e2⟩ := h3
          obtain ⟨e3, e4⟩ := hu
          rw [e3, e4, ← e2]; exact h2
        | enter f args => exact absurd hr (plain_not hp _ _ _ _ _)
        | defer d => cases h3
        | row r args => cases h3
        | _ => cases h3
  · simp only [hw] at h
    refine ⟨fun h' => absurd h' hw, fun u add hu => ?_⟩
    unfold OutW at hu
    rw [if_neg hw] at hu
    rw [hu.1, hu.2]; exact h
/-- One operation that its guard leaves out. -/
theorem wpE_off (hw : Region.wanted o (yielded ops a.tmps) = false) (h : wpE P C H N Post ops T rest gs (a.put o.dst undef)) : wpE P C H N Post ops T (o :: rest) gs a := by
  refine ⟨fun h' => (by rw [hw] at h'; cases h'), fun u add hu => ?_⟩
  unfold OutW at hu
  rw [if_neg (by rw [hw]; exact Bool.false_ne_true)] at hu
  rw [hu.1, hu.2]; exact h
/-- A call, by its contract. -/
theorem wpE_call {f : FuncId} {args : Array Value} (hw : Region.wanted o (yielded ops a.tmps) = true) (hrun : ∀ w, (execOp a.eval o).run P w = .ok (.enter f args) w)
    (hc : Contract P C H N Post f args) (h : ∀ u, Post f args u → wpE P C H N Post ops T rest gs (a.put o.dst u)) : wpE P C H N Post ops T (o :: rest) gs a := by
  refine ⟨fun _ n w hC => by rw [hrun]; exact ⟨rfl, hc⟩, fun u add hu => ?_⟩
  unfold OutW at hu
  rw [if_pos hw] at hu
  obtain ⟨n, w, hC, hu⟩ := hu
  rw [hrun] at hu
  rw [hu.2]; exact h u hu.1
/-- What makes a block anew. -/
theorem wpE_new {mk : Nat → Value} {ob : Obj} (hw : Region.wanted o (yielded ops a.tmps) = true) (hCH : ∀ n w, C n w → H ≤ w.heap.size) (hrun : ∀ w, (execOp a.eval o).run P w = .ok (.value (mk w.heap.size)) (w.alloc ob))
    (h : ∀ g, H ≤ g → wpE P C H N Post ops T rest ((g, ob) :: gs) (a.put o.dst (mk g))) : wpE P C H N Post ops T (o :: rest) gs a := by
  refine ⟨fun _ n w hC => by rw [hrun]; exact .inr ⟨ob, rfl⟩, fun u add hu => ?_⟩
  unfold OutW at hu
  rw [if_pos hw] at hu
  obtain ⟨n, w, hC, hu⟩ := hu
  rw [hrun] at hu
  obtain ⟨e3, ⟨e4, _⟩ | ⟨ob', e4, e5⟩⟩ := hu
  · exact absurd e4 (alloc_ne w ob)
  · have : ob' = ob := by
      have h2 := congrArg (fun x : World => x.heap[w.heap.size]?) e4
      have h3 : ∀ q : Obj, (w.alloc q).heap[w.heap.size]? = some q := fun q => by
        show (w.heap.push q)[w.heap.size]? = some q
        simp
      simp only [h3] at h2
      exact (Option.some.inj h2).symm
    rw [e3, e5, this]
    exact h _ (hCH n w hC)
theorem wpE_nil (h : T gs a) : wpE P C H N Post ops T [] gs a := h
end

/-- The class of all worlds that are below w0's end as w0 was. -/
def Bel (w0 : World) (_ : Nat) (w : World) : Prop := Below w0.heap.size w0 w
theorem bel_alloc (w0 : World) : ∀ n w o, Bel w0 n w → Bel w0 n (w.alloc o) := fun _ _ o h => Below.alloc h h.size o
theorem bel_size (w0 : World) : ∀ n w, Bel w0 n w → w0.heap.size ≤ w.heap.size := fun _ _ h => h.size
theorem bel_cell (w0 : World) (l : LatC (Bel w0)) (b o : Nat) (h : b < w0.heap.size) : l.x.cell? ⟨b, o, none⟩ = w0.cell? ⟨b, o, none⟩ := l.h.cell (p := ⟨b, o, none⟩) h
theorem bel_some (w0 : World) : Nonempty (LatC (Bel w0)) := ⟨⟨0, w0, Below.refl _ _⟩⟩
theorem bel_contract {w0 : World} {f : FuncId} {args : Array Value} (v : Value) (h : ∀ w, Calls P f args w fun e w' => e = .returned v ∧ Below w.heap.size w w') (hp : Post f args v) :
    Contract P (Bel w0) w0.heap.size N Post f args := fun _ w _ hC => (h w).mono fun _ _ ⟨he, hb⟩ => ⟨v, he, hp, below_later hC hb, fun g _ hg => hb.block g hg⟩
/-- A block of cells, read. -/
theorem held_cell {H : Nat} {w : World} {g : Nat} {vs : Array Value} {t : TypeId} (h : Held H w (g, .cells vs t)) (i : Nat) (hi : i < vs.size) : w.cell? ⟨g, i, none⟩ = some vs[i] := by
  have h2 : w.heap[g]? = some (.cells vs t) := h.2
  unfold World.cell?
  simp [h2, hi]
theorem held_frozen {H : Nat} {w : World} {g : Nat} {vs : Array Value} {t : TypeId} (h : Held H w (g, .cells vs t)) (i : Nat) : w.frozen? ⟨g, i, none⟩ = false := by
  have h2 : w.heap[g]? = some (.cells vs t) := h.2
  unfold World.frozen?
  simp [h2]
theorem held_lt {H : Nat} {w : World} {p : Nat × Obj} (h : Held H w p) : p.1 < w.heap.size := (Array.getElem?_eq_some_iff.1 h.2).1
end
end Go.RegE
