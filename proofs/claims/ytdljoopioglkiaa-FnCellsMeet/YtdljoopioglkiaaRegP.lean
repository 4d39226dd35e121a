/- What is proved: as in RegN, where what is made anew, and kept by callees, is told by a condition on its block, so that a block below the reader may be stored to in any order. The conditions stand at the theorems. -/
import Derived.Test.YtdljoopioglkiaaLat
namespace Go.RegP
open Go.RowKit Go.LatT
section
variable {P : Program} {ops : Array Oper} {md : Region.Mode} {C : Nat → World → Prop} {H : Nat → Prop} {N : Nat} {Post : FuncId → Array Value → Value → Prop} {own : Oper → Option Nat} {Sh : Obj → Prop} {needs : FuncId → Array Value → List (Nat × Obj)}

/-- What was made anew, and lies there. -/
def Held (H : Nat → Prop) (w : World) (p : Nat × Obj) : Prop := H p.1 ∧ w.heap[p.1]? = some p.2
/-- Blocks from H on are as they were. -/
def Keep (H : Nat → Prop) (w w' : World) : Prop := ∀ g, H g → g < w.heap.size → w'.heap[g]? = w.heap[g]?
/-- What is asked of a callee: in a world of the class in which what it needs lies. -/
def Contract (P : Program) (C : Nat → World → Prop) (H : Nat → Prop) (N : Nat) (Post : FuncId → Array Value → Value → Prop) (needs : FuncId → Array Value → List (Nat × Obj)) (f : FuncId) (args : Array Value) : Prop :=
  ∀ n w, n < N → C n w → (∀ p ∈ needs f args, Held H w p) → Calls P f args w fun e w'' => ∃ u, e = .returned u ∧ Post f args u ∧ C (n + 1) w'' ∧ Keep H w w''
/-- A block, laid anew in its place. -/
def wput (w : World) (g : Nat) (ob : Obj) : World := { w with heap := w.heap.setIfInBounds g ob }
def goodRun (P : Program) (C : Nat → World → Prop) (H : Nat → Prop) (N : Nat) (Post : FuncId → Array Value → Value → Prop) (Sh : Obj → Prop) (needs : FuncId → Array Value → List (Nat × Obj)) (gs : List (Nat × Obj)) (k : Option Nat) (w : World) : Result Next → Prop
  | .ok (.value _) w' => w' = w ∨ ∃ o, w' = w.alloc o
  | .ok .skip w' => match k with
    | none => w' = w
    | some g => ∃ ob, Sh ob ∧ w' = wput w g ob
  | .ok (.enter f args) w' => w' = w ∧ Contract P C H N Post needs f args ∧ (∃ u, Post f args u) ∧ ∀ p ∈ needs f args, p ∈ gs
  | _ => False
def outRun (Post : FuncId → Array Value → Value → Prop) (k : Option Nat) (w : World) (v : Value) (add : List (Nat × Obj)) : Result Next → Prop
  | .ok (.value u) w' => v = u ∧ ((w' = w ∧ add = []) ∨ ∃ o, w' = w.alloc o ∧ add = [(w.heap.size, o)])
  | .ok .skip w' => v = undef ∧ match k with
    | none => w' = w ∧ add = []
    | some g => ∃ ob, w'.heap[g]? = some ob ∧ add = [(g, ob)]
  | .ok (.enter f args) _ => Post f args v ∧ add = []
  | _ => False
def Good (P : Program) (C : Nat → World → Prop) (H : Nat → Prop) (N : Nat) (Post : FuncId → Array Value → Value → Prop) (Sh : Obj → Prop) (needs : FuncId → Array Value → List (Nat × Obj)) (gs : List (Nat × Obj)) (k : Option Nat) (x : Sem Next) : Prop := ∀ n w, C n w → goodRun P C H N Post Sh needs gs k w (x.run P w)
def Out (P : Program) (C : Nat → World → Prop) (Post : FuncId → Array Value → Value → Prop) (k : Option Nat) (x : Sem Next) (v : Value) (add : List (Nat × Obj)) : Prop := ∃ n w, C n w ∧ outRun Post k w v add (x.run P w)
def GoodW (P : Program) (C : Nat → World → Prop) (H : Nat → Prop) (N : Nat) (Post : FuncId → Array Value → Value → Prop) (Sh : Obj → Prop) (needs : FuncId → Array Value → List (Nat × Obj)) (own : Oper → Option Nat) (ops : Array Oper) (o : Oper) (gs : List (Nat × Obj)) (a : Act) : Prop :=
  Region.wanted o (yielded ops a.tmps) = true → Good P C H N Post Sh needs gs (own o) (execOp a.eval o)
def OutW (P : Program) (C : Nat → World → Prop) (Post : FuncId → Array Value → Value → Prop) (own : Oper → Option Nat) (ops : Array Oper) (o : Oper) (a : Act) (v : Value) (add : List (Nat × Obj)) : Prop :=
  if Region.wanted o (yielded ops a.tmps) = true then Out P C Post (own o) (execOp a.eval o) v add else v = undef ∧ add = []

/-- The walk in the order of the text. -/
def wpE (P : Program) (C : Nat → World → Prop) (H : Nat → Prop) (N : Nat) (Post : FuncId → Array Value → Value → Prop) (Sh : Obj → Prop) (needs : FuncId → Array Value → List (Nat × Obj)) (own : Oper → Option Nat) (ops : Array Oper) (T : List (Nat × Obj) → Act → Prop) : List Oper → List (Nat × Obj) → Act → Prop
  | [], gs, a => T gs a
  | o :: rest, gs, a => GoodW P C H N Post Sh needs own ops o gs a ∧ ∀ v add, OutW P C Post own ops o a v add → wpE P C H N Post Sh needs own ops T rest (add ++ gs) (a.put o.dst v)
/-- In whatever order. -/
def wpAnyE (P : Program) (md : Region.Mode) (C : Nat → World → Prop) (H : Nat → Prop) (N : Nat) (Post : FuncId → Array Value → Value → Prop) (Sh : Obj → Prop) (needs : FuncId → Array Value → List (Nat × Obj)) (own : Oper → Option Nat) (ops : Array Oper) (T : List (Nat × Obj) → Act → Prop) : Nat → Array Bool → List (Nat × Obj) → Act → Prop
  | 0, listed, gs, a => Region.ready md ops listed = [] ∧ T gs a
  | f + 1, listed, gs, a => (Region.ready md ops listed = [] → T gs a) ∧ ∀ i ∈ Region.ready md ops listed, ∀ o, ops[i]? = some o →
      GoodW P C H N Post Sh needs own ops o gs a ∧ ∀ v add, OutW P C Post own ops o a v add → wpAnyE P md C H N Post Sh needs own ops T f (listed.setIfInBounds i true) (add ++ gs) (a.put o.dst v)

theorem goodW_mono {o : Oper} {a : Act} {gs gs' : List (Nat × Obj)} (hs : ∀ p ∈ gs, p ∈ gs') (h : GoodW P C H N Post Sh needs own ops o gs a) : GoodW P C H N Post Sh needs own ops o gs' a := by
  intro hw n w hC
  have h2 := h hw n w hC
  cases hr : (execOp a.eval o).run P w with
  | halt y w' => rw [hr] at h2; cases h2
  | ok y w' =>
    rw [hr] at h2
    cases y with
    | value u => exact h2
    | skip => exact h2
    | enter f args => exact ⟨h2.1, h2.2.1, h2.2.2.1, fun p hp => hs p (h2.2.2.2 p hp)⟩
    | defer d => cases h2
    | row r args => cases h2
    | _ => cases h2
theorem wpAnyE_mono {T : List (Nat × Obj) → Act → Prop} (hT : ∀ gs gs' a, (∀ p ∈ gs, p ∈ gs') → T gs a → T gs' a) :
    ∀ (f : Nat) (listed : Array Bool) (gs gs' : List (Nat × Obj)) (a : Act), (∀ p ∈ gs, p ∈ gs') → wpAnyE P md C H N Post Sh needs own ops T f listed gs a → wpAnyE P md C H N Post Sh needs own ops T f listed gs' a
  | 0, _, _, _, _, hs, h => ⟨h.1, hT _ _ _ hs h.2⟩
  | f + 1, _, gs, gs', _, hs, h => ⟨fun h0 => hT _ _ _ hs (h.1 h0), fun i hi o ho => ⟨goodW_mono hs (h.2 i hi o ho).1, fun v add hv => wpAnyE_mono hT f _ (add ++ gs) (add ++ gs') _
      (fun p hp => by rcases List.mem_append.1 hp with h1 | h1; exact List.mem_append_left _ h1; exact List.mem_append_right _ (hs p h1)) ((h.2 i hi o ho).2 v add hv)⟩⟩

theorem out_some {gs : List (Nat × Obj)} {k : Option Nat} {x : Sem Next} {n : Nat} {w : World} (hC : C n w) (hk : ∀ g, k = some g → g < w.heap.size) (hg : Good P C H N Post Sh needs gs k x) : ∃ v add, Out P C Post k x v add := by
  have h := hg n w hC
  cases hr : x.run P w with
  | halt y w' => rw [hr] at h; cases h
  | ok y w' =>
    rw [hr] at h
    cases y with
    | value u =>
      rcases h with h | ⟨o, h⟩
      · exact ⟨u, [], n, w, hC, by rw [hr]; exact ⟨rfl, .inl ⟨h, rfl⟩⟩⟩
      · exact ⟨u, _, n, w, hC, by rw [hr]; exact ⟨rfl, .inr ⟨o, h, rfl⟩⟩⟩
    | skip =>
      cases k with
      | none => exact ⟨undef, [], n, w, hC, by rw [hr]; exact ⟨rfl, h, rfl⟩⟩
      | some g =>
        obtain ⟨ob, _, h⟩ := h
        exact ⟨undef, [(g, ob)], n, w, hC, by rw [hr, h]; exact ⟨rfl, ob, by simp [wput, hk g rfl], rfl⟩⟩
    | enter f args =>
      obtain ⟨_, _, ⟨u, hu⟩, _⟩ := h
      exact ⟨u, [], n, w, hC, by rw [hr]; exact ⟨hu, rfl⟩⟩
    | defer d => cases h
    | row r args => cases h
    | _ => cases h

theorem outW_some {o : Oper} {gs : List (Nat × Obj)} {a : Act} {n : Nat} {w : World} (hC : C n w) (hk : ∀ g, own o = some g → g < w.heap.size) (hg : GoodW P C H N Post Sh needs own ops o gs a) : ∃ v add, OutW P C Post own ops o a v add := by
  unfold OutW
  by_cases hw : Region.wanted o (yielded ops a.tmps) = true
  · obtain ⟨v, add, h⟩ := out_some hC hk (hg hw)
    exact ⟨v, add, by rw [if_pos hw]; exact h⟩
  · exact ⟨undef, [], by rw [if_neg hw]; exact ⟨rfl, rfl⟩⟩

theorem goodW_put {o : Oper} {gs : List (Nat × Obj)} {a : Act} {dst : Option Tmp} {v : Value} (hs : ∀ cs b, o.op ≠ .select cs b) (h : ∀ d, dst = some d → d ∉ o.looksAt ops) :
    GoodW P C H N Post Sh needs own ops o gs (a.put dst v) ↔ GoodW P C H N Post Sh needs own ops o gs a := by
  unfold GoodW; rw [execOp_put o hs a dst v h, wanted_put o a dst v h]
theorem outW_put {o : Oper} {a : Act} {dst : Option Tmp} {v u : Value} {add : List (Nat × Obj)} (hs : ∀ cs b, o.op ≠ .select cs b) (h : ∀ d, dst = some d → d ∉ o.looksAt ops) :
    OutW P C Post own ops o (a.put dst v) u add ↔ OutW P C Post own ops o a u add := by
  unfold OutW; rw [execOp_put o hs a dst v h, wanted_put o a dst v h]

theorem out_at {gs : List (Nat × Obj)} {k : Option Nat} {x : Sem Next} {n : Nat} {w : World} (hC : C n w) (hk : ∀ g, k = some g → g < w.heap.size) (hg : Good P C H N Post Sh needs gs k x) :
    ∃ v add, Out P C Post k x v add ∧ ∀ q ∈ add, q.1 = w.heap.size ∨ k = some q.1 := by
  have h := hg n w hC
  cases hr : x.run P w with
  | halt y w' => rw [hr] at h; cases h
  | ok y w' =>
    rw [hr] at h
    cases y with
    | value u =>
      rcases h with h | ⟨o, h⟩
      · exact ⟨u, [], ⟨n, w, hC, by rw [hr]; exact ⟨rfl, .inl ⟨h, rfl⟩⟩⟩, fun q hq => by cases hq⟩
      · exact ⟨u, [(w.heap.size, o)], ⟨n, w, hC, by rw [hr]; exact ⟨rfl, .inr ⟨o, h, rfl⟩⟩⟩, fun q hq => by rcases List.mem_singleton.1 hq with rfl; exact .inl rfl⟩
    | skip =>
      cases k with
      | none => exact ⟨undef, [], ⟨n, w, hC, by rw [hr]; exact ⟨rfl, h, rfl⟩⟩, fun q hq => by cases hq⟩
      | some g =>
        obtain ⟨ob, _, h⟩ := h
        exact ⟨undef, [(g, ob)], ⟨n, w, hC, by rw [hr, h]; exact ⟨rfl, ob, by simp [wput, hk g rfl], rfl⟩⟩, fun q hq => by rcases List.mem_singleton.1 hq with rfl; exact .inr rfl⟩
    | enter f args =>
      obtain ⟨_, _, ⟨u, hu⟩, _⟩ := h
      exact ⟨u, [], ⟨n, w, hC, by rw [hr]; exact ⟨hu, rfl⟩⟩, fun q hq => by cases hq⟩
    | defer d => cases h
    | row r args => cases h
    | _ => cases h
theorem outW_at {o : Oper} {gs : List (Nat × Obj)} {a : Act} {n : Nat} {w : World} (hC : C n w) (hk : ∀ g, own o = some g → g < w.heap.size) (hg : GoodW P C H N Post Sh needs own ops o gs a) :
    ∃ v add, OutW P C Post own ops o a v add ∧ ∀ q ∈ add, q.1 = w.heap.size ∨ own o = some q.1 := by
  unfold OutW
  by_cases hw : Region.wanted o (yielded ops a.tmps) = true
  · obtain ⟨v, add, h, h'⟩ := out_at hC hk (hg hw)
    exact ⟨v, add, by rw [if_pos hw]; exact h, h'⟩
  · exact ⟨undef, [], by rw [if_neg hw]; exact ⟨rfl, rfl⟩, fun q hq => by cases hq⟩
/-- What is said of an operation with what another one made does not lean on that. -/
theorem good_less {o oi : Oper} {i : Nat} {gs : List (Nat × Obj)} {a : Act} {n0 : Nat} {w0 : World} (hCa : ∀ n w o, C n w → C n (w.alloc o)) (hnd : ∀ (f : FuncId) (args : Array Value), ∀ p ∈ needs f args, ∀ (i : Nat) (x : Oper), ops[i]? = some x → own x ≠ some p.1)
    (hi : ops[i]? = some oi) (hC0 : C n0 w0) (hk : ∀ g, own oi = some g → g < w0.heap.size) (hgi : GoodW P C H N Post Sh needs own ops oi gs a) (h : ∀ v add, OutW P C Post own ops oi a v add → GoodW P C H N Post Sh needs own ops o (add ++ gs) a) : GoodW P C H N Post Sh needs own ops o gs a := by
  intro hw n w hC
  obtain ⟨v0, add0, ho0, hq0⟩ := outW_at hC0 hk hgi
  obtain ⟨v1, add1, ho1, hq1⟩ := outW_at (hCa n0 w0 (.cells #[] 0) hC0) (fun g hg => by have := hk g hg; simp; omega) hgi
  have g0 := h v0 add0 ho0 hw n w hC
  have g1 := h v1 add1 ho1 hw n w hC
  cases hr : (execOp a.eval o).run P w with
  | halt y w' => rw [hr] at g0; cases g0
  | ok y w' =>
    rw [hr] at g0 g1
    cases y with
    | value u => exact g0
    | skip => exact g0
    | enter f args =>
      obtain ⟨e, hc, hx, s0⟩ := g0
      obtain ⟨_, _, _, s1⟩ := g1
      refine ⟨e, hc, hx, fun p hp => ?_⟩
      rcases List.mem_append.1 (s0 p hp) with h0 | h0
      · rcases List.mem_append.1 (s1 p hp) with h1 | h1
        · rcases hq0 p h0 with e0 | e0
          · rcases hq1 p h1 with e1 | e1
            · simp at e1; omega
            · exact absurd e1 (hnd f args p hp i oi hi)
          · exact absurd e0 (hnd f args p hp i oi hi)
        · exact h1
      · exact h0
    | defer d => cases g0
    | row r args => cases g0
    | _ => cases g0
theorem wpAnyE_first {T : List (Nat × Obj) → Act → Prop} (hT : ∀ gs gs' a, (∀ p ∈ gs, p ∈ gs') → T gs a → T gs' a) {n0 : Nat} {w0 : World} (hCa : ∀ n w o, C n w → C n (w.alloc o)) (hnd : ∀ (f : FuncId) (args : Array Value), ∀ p ∈ needs f args, ∀ (i : Nat) (x : Oper), ops[i]? = some x → own x ≠ some p.1) (hC0 : C n0 w0) (hk0 : ∀ (i : Nat) (x : Oper) (g : Nat), ops[i]? = some x → own x = some g → g < w0.heap.size)
    (hsel : ∀ (j : Nat) (o : Oper) cs b, ops[j]? = some o → o.op ≠ .select cs b) {i : Nat} {oi : Oper} (hi : ops[i]? = some oi) :
    ∀ (f : Nat) (listed : Array Bool) (gs : List (Nat × Obj)) (a : Act),
      (∀ (j : Nat) (oj : Oper), ops[j]? = some oj → j ≠ i → listed.getD j true = false → (∀ e ∈ oj.after, Region.binds md e = true → e.on ≠ i) → oi.apart ops oj = true) →
      i ∈ Region.ready md ops listed → GoodW P C H N Post Sh needs own ops oi gs a →
      (∀ v add, OutW P C Post own ops oi a v add → wpAnyE P md C H N Post Sh needs own ops T f (listed.setIfInBounds i true) (add ++ gs) (a.put oi.dst v)) →
      wpAnyE P md C H N Post Sh needs own ops T (f + 1) listed gs a := by
  intro f
  induction f with
  | zero =>
    intro listed gs a hfree hr hg hrest
    refine ⟨fun h0 => (by rw [h0] at hr; cases hr), fun k hk ok hok => ?_⟩
    by_cases hki : k = i
    · subst hki
      have : ok = oi := Option.some.inj (hok.symm.trans hi)
      subst this; exact ⟨hg, hrest⟩
    · obtain ⟨v0, add0, hv0⟩ := outW_some hC0 (fun g => hk0 i oi g hi) hg
      have hx := (hrest v0 add0 hv0).1
      have := ready_mono hk hki
      rw [hx] at this; cases this
  | succ f ih =>
    intro listed gs a hfree hr hg hrest
    refine ⟨fun h0 => (by rw [h0] at hr; cases hr), fun k hk ok hok => ?_⟩
    by_cases hki : k = i
    · subst hki
      have : ok = oi := Option.some.inj (hok.symm.trans hi)
      subst this; exact ⟨hg, hrest⟩
    · obtain ⟨hun, ok', hok', hall⟩ := mem_ready.1 hk
      have : ok' = ok := Option.some.inj (hok'.symm.trans hok)
      subst this
      have hiun : listed.getD i true = false := (mem_ready.1 hr).1
      have hap := hfree k ok' hok hki hun (fun e he hb hon => by
        have h2 := hall e he hb
        rw [hon] at h2
        rcases Nat.lt_or_ge i listed.size with h' | h'
        · simp [h'] at h2 hiun; rw [hiun] at h2; cases h2
        · simp [Array.getElem?_eq_none h'] at h2)
      obtain ⟨h1, h2, h3⟩ := Oper.apart_spec hap
      have sk := fun cs b => hsel k ok' cs b hok
      have si := fun cs b => hsel i oi cs b hi
      obtain ⟨v0, add0, hv0⟩ := outW_some hC0 (fun g => hk0 i oi g hi) hg
      have hx := (hrest v0 add0 hv0).2 k (ready_mono hk hki) ok' hok
      refine ⟨good_less hCa hnd hi hC0 (fun g => hk0 i oi g hi) hg (fun v add hv => (goodW_put sk h1).1 ((hrest v add hv).2 k (ready_mono hk hki) ok' hok).1), fun u addk hu => ?_⟩
      refine ih (listed.setIfInBounds k true) (addk ++ gs) (a.put ok'.dst u) (fun j oj hj hne hunj hno => ?_) (ready_mono hr (Ne.symm hki)) (goodW_mono (fun p hp => List.mem_append_right _ hp) ((goodW_put si h3).2 hg)) (fun v add hv => ?_)
      · by_cases hkj : k = j
        · subst hkj
          have : oj = ok' := Option.some.inj (hj.symm.trans hok)
          subst this; exact hap
        · exact hfree j oj hj hne (by rw [getD_set_ne true hkj] at hunj; exact hunj) hno
      · have hv' := (outW_put si h3).1 hv
        have hy := ((hrest v add hv').2 k (ready_mono hk hki) ok' hok).2 u addk ((outW_put sk h1).2 hu)
        rw [Array.setIfInBounds_comm _ _ hki, ← Act.put_comm a v u h2]
        refine wpAnyE_mono hT f _ _ _ _ (fun p hp => ?_) hy
        simp only [List.mem_append] at hp ⊢
        rcases hp with h | h | h
        · exact .inr (.inl h)
        · exact .inl h
        · exact .inr (.inr h)

theorem wpAnyE_lex {T : List (Nat × Obj) → Act → Prop} (hT : ∀ gs gs' a, (∀ p ∈ gs, p ∈ gs') → T gs a → T gs' a) {n0 : Nat} {w0 : World} (hCa : ∀ n w o, C n w → C n (w.alloc o)) (hnd : ∀ (f : FuncId) (args : Array Value), ∀ p ∈ needs f args, ∀ (i : Nat) (x : Oper), ops[i]? = some x → own x ≠ some p.1) (hC0 : C n0 w0) (hk0 : ∀ (i : Nat) (x : Oper) (g : Nat), ops[i]? = some x → own x = some g → g < w0.heap.size) (hs : Region.noSelect ops = true) :
    ∀ (l : List Oper) (k : Nat) (listed : Array Bool) (gs : List (Nat × Obj)) (a : Act), (∀ j, l[j]? = ops[k + j]?) →
    Region.lexFrom md ops l.length k listed = true → wpE P C H N Post Sh needs own ops T l gs a → wpAnyE P md C H N Post Sh needs own ops T l.length listed gs a
  | [], _, _, _, _, _, hB, h => ⟨by simpa [Region.lexFrom] using hB, h⟩
  | o :: l, k, listed, gs, a, hl, hB, h => by
    have h0 : ops[k]? = some o := by simpa using (hl 0).symm
    simp only [List.length_cons, Region.lexFrom, Bool.and_eq_true] at hB
    obtain ⟨⟨hr, hf⟩, hB'⟩ := hB
    exact wpAnyE_first hT hCa hnd hC0 hk0 (Region.noSelect_spec hs) h0 l.length listed gs a (Region.free_spec h0 hf) (by simpa using hr) h.1
      (fun v add hv => wpAnyE_lex hT hCa hnd hC0 hk0 hs l (k + 1) _ _ _ (fun j => by have := hl (j + 1); simpa [Nat.add_assoc, Nat.add_comm 1 j] using this) hB' (h.2 v add hv))

theorem held_alloc {w : World} {p : Nat × Obj} (o : Obj) (h : Held H w p) : Held H (w.alloc o) p := by
  refine ⟨h.1, ?_⟩
  have hlt : p.1 < w.heap.size := (Array.getElem?_eq_some_iff.1 h.2).1
  rw [Below.heap_alloc _ _ _ hlt]; exact h.2
theorem held_new {w : World} (o : Obj) (h : H w.heap.size) : Held H (w.alloc o) (w.heap.size, o) := by
  refine ⟨h, ?_⟩
  show (w.heap.push o)[w.heap.size]? = some o
  simp
theorem held_keep {w w' : World} {p : Nat × Obj} (k : Keep H w w') (h : Held H w p) : Held H w' p := by
  refine ⟨h.1, ?_⟩
  rw [k p.1 h.1 (Array.getElem?_eq_some_iff.1 h.2).1]; exact h.2

theorem wput_size (w : World) (g : Nat) (ob : Obj) : (wput w g ob).heap.size = w.heap.size := by simp [wput]
theorem held_wput {w : World} {p : Nat × Obj} {g : Nat} (ob : Obj) (hne : p.1 ≠ g) (h : Held H w p) : Held H (wput w g ob) p := by
  refine ⟨h.1, ?_⟩
  show (w.heap.setIfInBounds g ob)[p.1]? = some p.2
  rw [Array.getElem?_setIfInBounds_ne (Ne.symm hne)]; exact h.2
theorem held_put {w : World} {g : Nat} (ob : Obj) (h : H g) (hg : g < w.heap.size) : Held H (wput w g ob) (g, ob) := by
  refine ⟨h, ?_⟩
  show (w.heap.setIfInBounds g ob)[g]? = some ob
  simp [hg]
/-- Which blocks may lie among what was made: new ones, and those of operations that came up. -/
def Tell (own : Oper → Option Nat) (ops : Array Oper) (M : Nat) (listed : Array Bool) (gs : List (Nat × Obj)) : Prop :=
  ∀ p ∈ gs, M ≤ p.1 ∨ ∃ (i : Nat) (o : Oper), ops[i]? = some o ∧ own o = some p.1 ∧ listed.getD i true = true
/-- One operation of the real region, by what the walk says of it. -/
theorem wpOp_of_E {Q' : Exit → Act → World → Prop} {K : Act → World → Prop} {i : Nat} {o : Oper} {a : Act} {w : World} {m : Nat} {gs : List (Nat × Obj)} {R : List (Nat × Obj) → Act → Prop}
    (hCa : ∀ n w o, C n w → C n (w.alloc o)) (hCH : ∀ n w, C n w → H w.heap.size) {M : Nat} (hCM : ∀ n w, C n w → M ≤ w.heap.size) {listed : Array Bool} (hls : listed.size = ops.size)
    (hown : ∀ (i j : Nat) (x y : Oper) (g : Nat), ops[i]? = some x → ops[j]? = some y → own x = some g → own y = some g → i = j)
    (hCp : ∀ (i : Nat) (x : Oper) (g : Nat), ops[i]? = some x → own x = some g → H g ∧ g < M ∧ ∀ n w ob, Sh ob → C n w → C n (wput w g ob)) (hun : listed.getD i true = false)
    (hi : ops[i]? = some o) (hC : C m w) (hm : m < N) (hh : ∀ p ∈ gs, Held H w p) (ht : Tell own ops M listed gs)
    (hg : GoodW P C H N Post Sh needs own ops o gs a) (hR : ∀ v add, OutW P C Post own ops o a v add → R (add ++ gs) (a.put o.dst v))
    (hK : ∀ gs' a' w' m', m' ≤ m + 1 → C m' w' → (∀ p ∈ gs', Held H w' p) → Tell own ops M (listed.setIfInBounds i true) gs' → R gs' a' → K a' w') : wpOp P ops Q' i K a w := by
  have hlt : i < listed.size := by rw [hls]; exact (Array.getElem?_eq_some_iff.1 hi).1
  have ht' : Tell own ops M (listed.setIfInBounds i true) gs := by
    intro p hp
    rcases ht p hp with h | ⟨j, x, hj, hx, hl⟩
    · exact .inl h
    · refine .inr ⟨j, x, hj, hx, ?_⟩
      by_cases hij : i = j
      · subst hij; simp [hlt]
      · rw [getD_set_ne true hij]; exact hl
  unfold wpOp
  rw [hi]
  by_cases hw : Region.wanted o (yielded ops a.tmps) = true
  · simp only [hw, if_true]
    left
    have h := hg hw m w hC
    have hR' : ∀ v add, Out P C Post (own o) (execOp a.eval o) v add → R (add ++ gs) (a.put o.dst v) := fun v add hv => hR v add (by unfold OutW; rw [if_pos hw]; exact hv)
    unfold Oper.wp
    cases hr : (execOp a.eval o).run P w with
    | halt y w' => rw [hr] at h; cases h
    | ok y w' =>
      rw [hr] at h
      cases y with
      | value u =>
        rcases h with h | ⟨ob, h⟩
        · subst h
          exact hK gs _ _ m (by omega) hC hh ht' (hR' u [] ⟨m, _, hC, by rw [hr]; exact ⟨rfl, .inl ⟨rfl, rfl⟩⟩⟩)
        · subst h
          refine hK _ _ _ m (by omega) (hCa m w ob hC) ?_ (fun p hp => ?_) (hR' u [(w.heap.size, ob)] ⟨m, w, hC, by rw [hr]; exact ⟨rfl, .inr ⟨ob, rfl, rfl⟩⟩⟩)
          intro p hp
          rcases List.mem_append.1 hp with h1 | h1
          · have : p = (w.heap.size, ob) := by simpa using h1
            subst this; exact held_new ob (hCH m w hC)
          · exact held_alloc ob (hh p h1)
          · rcases List.mem_append.1 hp with h1 | h1
            · have : p = (w.heap.size, ob) := by simpa using h1
              subst this; exact .inl (hCM m w hC)
            · exact ht' p h1
      | skip =>
        cases hk : own o with
        | none =>
          rw [hk] at h
          have h' : w' = w := h
          subst h'
          exact hK gs _ _ m (by omega) hC hh ht' (hR' undef [] ⟨m, _, hC, by rw [hr, hk]; exact ⟨rfl, rfl, rfl⟩⟩)
        | some g =>
          rw [hk] at h
          obtain ⟨ob, hsh, h'⟩ := h
          subst h'
          obtain ⟨hg1, hg2, hg3⟩ := hCp i o g hi hk
          have hgs : g < w.heap.size := by have := hCM m w hC; omega
          refine hK _ _ _ m (by omega) (hg3 m w ob hsh hC) (fun p hp => ?_) (fun p hp => ?_) (hR' undef [(g, ob)] ⟨m, w, hC, by rw [hr, hk]; exact ⟨rfl, ob, by simp [wput, hgs], rfl⟩⟩)
          · rcases List.mem_append.1 hp with h1 | h1
            · have : p = (g, ob) := by simpa using h1
              subst this; exact held_put ob hg1 (by have := hCM m w hC; omega)
            · refine held_wput ob (fun e => ?_) (hh p h1)
              rcases ht p h1 with h2 | ⟨j, x, hj, hx, hl⟩
              · omega
              · have : i = j := hown i j o x g hi hj hk (by rw [hx, e])
                subst this
                rw [hun] at hl; cases hl
          · rcases List.mem_append.1 hp with h1 | h1
            · have : p = (g, ob) := by simpa using h1
              subst this; exact .inr ⟨i, o, hi, hk, by simp [hlt]⟩
            · exact ht' p h1
      | enter f args =>
        obtain ⟨h', hc, _, hn⟩ := h
        subst h'
        refine (hc m _ hm hC (fun p hp => hh p (hn p hp))).mono ?_
        rintro e w'' ⟨u, rfl, hu, hC', hk⟩
        exact hK gs _ _ (m + 1) (Nat.le_refl _) hC' (fun p hp => held_keep hk (hh p hp)) ht' (hR' u [] ⟨m, _, hC, by rw [hr]; exact ⟨hu, rfl⟩⟩)
      | defer d => cases h
      | row r args => cases h
      | _ => cases h
  · simp only [hw]
    exact hK gs _ _ m (by omega) hC hh ht' (hR undef [] (by unfold OutW; rw [if_neg hw]; exact ⟨rfl, rfl⟩))

/-- The whole region, its last operation by itself. -/
theorem wpAny_of_E {n : Nat} {o : Oper} (hn : ops[n]? = some o) (hsz : ops.size = n + 1) (hwait : ∀ i, i < n → ∃ e ∈ o.after, Region.binds md e = true ∧ e.on = i)
    (hac : ∀ (i : Nat) (o : Oper), ops[i]? = some o → ∀ e ∈ o.after, e.on < i) (hg : o.guard = none) (hdst : o.dst = none)
    (hCa : ∀ n w o, C n w → C n (w.alloc o)) (hCH : ∀ n w, C n w → H w.heap.size) {M : Nat} (hCM : ∀ n w, C n w → M ≤ w.heap.size)
    (hown : ∀ (i j : Nat) (x y : Oper) (g : Nat), ops[i]? = some x → ops[j]? = some y → own x = some g → own y = some g → i = j)
    (hCp : ∀ (i : Nat) (x : Oper) (g : Nat), ops[i]? = some x → own x = some g → H g ∧ g < M ∧ ∀ n w ob, Sh ob → C n w → C n (wput w g ob)) {T : List (Nat × Obj) → Act → Prop}
    {Q' : Exit → Act → World → Prop} (hQ : ∀ gs a w m, C m w → (∀ p ∈ gs, Held H w p) → T gs a → (o.wp P a w (fun a' w' => Q' .normal a' w') Q' ∨ (o.asks P a w ∧ LetsOut Q'))) :
    ∀ (fuel : Nat) (listed : Array Bool) (gs : List (Nat × Obj)) (a : Act) (w : World) (m : Nat), listed.size = ops.size → listed.getD n true = false → C m w → m + fuel ≤ N → (∀ p ∈ gs, Held H w p) → Tell own ops M listed gs →
      wpAnyE P md C H N Post Sh needs own (ops.setIfInBounds n (blanked o)) T fuel listed gs a → wpAny P md ops Q' fuel listed a w
  | 0, listed, gs, a, w, m, hls, hu, hC, hm, hh, ht, h => by
    have h0 := h.1
    rw [ready_blank hn] at h0
    exact absurd h0 (some_ready hac hls n n (Nat.le_refl _) (by omega) hu)
  | fuel + 1, listed, gs, a, w, m, hls, hu, hC, hm, hh, ht, h => by
    refine ⟨fun h0 => absurd h0 (some_ready hac hls n n (Nat.le_refl _) (by omega) hu), fun i hi => ?_⟩
    have hi' : i ∈ Region.ready md (ops.setIfInBounds n (blanked o)) listed := by rw [ready_blank hn]; exact hi
    by_cases hin : i = n
    · subst hin
      have hall : ∀ j, j < i → listed.getD j false = true := by
        intro j hj
        obtain ⟨_, o', ho', ha⟩ := mem_ready.1 hi
        have : o' = o := Option.some.inj (ho'.symm.trans hn)
        subst this
        obtain ⟨e, he, hb, hon⟩ := hwait j hj
        rw [← hon]; exact ha e he hb
      have hdone : Region.ready md ops (listed.setIfInBounds i true) = [] := by
        apply List.eq_nil_iff_forall_not_mem.2
        intro j hj
        obtain ⟨hun, o', ho', _⟩ := mem_ready.1 hj
        have hjlt : j < ops.size := (Array.getElem?_eq_some_iff.1 ho').1
        by_cases hji : i = j
        · subst hji
          have : i < listed.size := by omega
          simp [this] at hun
        · rw [getD_set_ne true hji] at hun
          have h3 := hall j (by omega)
          have hs : j < listed.size := by omega
          simp [hs] at hun h3
          rw [hun] at h3; cases h3
      have hT : T gs a := by
        have h2 := (h.2 i hi' (blanked o) (by rw [at_blank hn, if_pos rfl])).2 (.bool true) [] (by
          unfold OutW
          have hw : Region.wanted (blanked o) (yielded (ops.setIfInBounds i (blanked o)) a.tmps) = true := by simp [Region.wanted, blanked, hg]
          rw [if_pos hw]
          refine ⟨m, w, hC, ?_⟩
          rw [BigFrame.run_move (.const (.bool true)) rfl]
          exact ⟨rfl, .inl ⟨rfl, rfl⟩⟩)
        have hput : a.put (blanked o).dst (.bool true) = a := by simp [blanked, hdst, Act.put]
        rw [hput, List.nil_append] at h2
        have hd : Region.ready md (ops.setIfInBounds i (blanked o)) (listed.setIfInBounds i true) = [] := by rw [ready_blank hn]; exact hdone
        cases fuel with
        | zero => exact h2.2
        | succ f => exact h2.1 hd
      unfold wpOp
      rw [hn]
      have hw : Region.wanted o (yielded ops a.tmps) = true := by simp [Region.wanted, hg]
      simp only [hw, if_true]
      exact (hQ gs a w m hC hh hT).imp (fun h5 => Oper.wp_mono (fun a' w' h' => wpAny_stop hdone fuel a' w' h') h5) (fun h5 => h5)
    · obtain ⟨hiun, oi, hoi, _⟩ := mem_ready.1 hi
      have hoi' : (ops.setIfInBounds n (blanked o))[i]? = some oi := by rw [at_blank hn, if_neg hin]; exact hoi
      have h2 := h.2 i hi' oi hoi'
      have hg2 : GoodW P C H N Post Sh needs own ops oi gs a := by have := h2.1; unfold GoodW at this ⊢; rw [yielded_blank hn] at this; exact this
      refine wpOp_of_E hCa hCH hCM hls hown hCp hiun hoi hC (by omega) hh ht hg2 (R := fun gs' a' => wpAnyE P md C H N Post Sh needs own (ops.setIfInBounds n (blanked o)) T fuel (listed.setIfInBounds i true) gs' a') (fun v add hv => ?_) (fun gs' a' w' m' hm' hC' hh' ht' hR' => ?_)
      · exact h2.2 v add (by unfold OutW at hv ⊢; rw [yielded_blank hn]; exact hv)
      · exact wpAny_of_E hn hsz hwait hac hg hdst hCa hCH hCM hown hCp hQ fuel _ gs' a' w' m' (by simp [hls]) (by rw [getD_set_ne true hin]; exact hu) hC' (by omega) hh' ht' hR'

theorem wpE_congr {T : List (Nat × Obj) → Act → Prop} {ops' : Array Oper} (hy : ∀ tmps, yielded ops' tmps = yielded ops tmps) : ∀ (l : List Oper) (gs : List (Nat × Obj)) (a : Act), wpE P C H N Post Sh needs own ops T l gs a → wpE P C H N Post Sh needs own ops' T l gs a
  | [], _, _, h => h
  | o :: l, gs, a, h => by
    refine ⟨?_, fun v add hv => ?_⟩
    · have := h.1; unfold GoodW at this ⊢; rw [hy]; exact this
    · exact wpE_congr hy l _ _ (h.2 v add (by unfold OutW at hv ⊢; rw [hy] at hv; exact hv))

theorem wpE_snoc {T : List (Nat × Obj) → Act → Prop} {o : Oper} (hg : o.guard = none) (hd : o.dst = none) : ∀ (l : List Oper) (gs : List (Nat × Obj)) (a : Act), wpE P C H N Post Sh needs own ops T l gs a → wpE P C H N Post Sh needs own ops T (l ++ [blanked o]) gs a
  | [], gs, a, h => by
    have hput : ∀ v, a.put (blanked o).dst v = a := by intro v; simp [blanked, hd, Act.put]
    refine ⟨fun _ n w _ => ?_, fun v add hv => ?_⟩
    · rw [BigFrame.run_move (.const (.bool true)) rfl]; exact .inl rfl
    · unfold OutW at hv
      have hw : Region.wanted (blanked o) (yielded ops a.tmps) = true := by simp [Region.wanted, blanked, hg]
      rw [if_pos hw] at hv
      obtain ⟨n, w, _, hv⟩ := hv
      rw [BigFrame.run_move (.const (.bool true)) rfl] at hv
      rcases hv with ⟨_, ⟨_, ha⟩ | ⟨ob, hb, _⟩⟩
      · subst ha; rw [hput]; exact h
      · have := congrArg (fun x : World => x.heap.size) hb
        simp at this
  | p :: l, gs, a, h => ⟨h.1, fun v add hv => wpE_snoc hg hd l _ _ (h.2 v add hv)⟩

/-- A region that draws its order, its last operation a store: one walk, in the text's order. -/
theorem wp_region_E {id : Nat} {Q : Exit → Act → World → Prop} {a : Act} {wn : World} {l init : List Oper} {o : Oper} (C : Nat → World → Prop) (H : Nat → Prop) (Post : FuncId → Array Value → Value → Prop)
    (hm : P.follows .mixedOrders = true) (hi : l.dropLast = init) (ho : l.getLast? = some o) (hB : lastB l o = true)
    (hC0 : C 0 wn.drew) (hCa : ∀ n w o, C n w → C n (w.alloc o)) (hCH : ∀ n w, C n w → H w.heap.size)
    (h : wpE P C H l.length Post (fun _ => False) needs (fun _ => none) l.toArray (fun gs a' => ∀ m w, C m w → (∀ p ∈ gs, Held H w p) → wpList P l.toArray Q [o] a' w) init [] a) : (Code.region id l.toArray true).wp P Q a wn := by
  have hne : l ≠ [] := by intro e; rw [e] at ho; cases ho
  have hl : l = init ++ [o] := by
    rw [← hi]
    rw [List.getLast?_eq_some_getLast hne] at ho
    rw [← Option.some.inj ho]; exact (List.dropLast_concat_getLast hne).symm
  simp only [lastB, Bool.and_eq_true] at hB
  obtain ⟨⟨⟨⟨hg, hd⟩, hw⟩, hac⟩, hlex⟩ := hB
  have hg' : o.guard = none := by simpa using hg
  have hd' : o.dst = none := by simpa using hd
  have hlen : l.length = init.length + 1 := by rw [hl]; simp
  have hn : l.toArray[init.length]? = some o := by rw [hl]; simp
  have hset : l.toArray.setIfInBounds init.length (blanked o) = (init ++ [blanked o]).toArray := by
    rw [hl]; simp
  have hy : ∀ tmps, yielded (init ++ [blanked o]).toArray tmps = yielded l.toArray tmps := by
    intro tmps; rw [← hset]; exact yielded_blank hn tmps
  rw [hi] at hlex
  simp only [Region.lexB, Bool.and_eq_true] at hlex
  have h2 := wpE_snoc (o := o) hg' hd' init [] a (wpE_congr hy init [] a h)
  have hTm : ∀ (gs gs' : List (Nat × Obj)) (a : Act), (∀ p ∈ gs, p ∈ gs') → (∀ m w, C m w → (∀ p ∈ gs, Held H w p) → wpList P l.toArray Q [o] a w) → (∀ m w, C m w → (∀ p ∈ gs', Held H w p) → wpList P l.toArray Q [o] a w) :=
    fun gs gs' a hs h m w hC hh => h m w hC (fun p hp => hh p (hs p hp))
  have h3 := wpAnyE_lex (md := .any) hTm (n0 := 0) (N := l.length) hCa (fun _ _ _ _ _ _ _ h => by cases h) hC0 (fun _ _ _ _ h => by cases h) hlex.1 (init ++ [blanked o]) 0 (Array.replicate (init ++ [blanked o]).toArray.size false) [] a (by simp) (by simpa using hlex.2) h2
  refine wp_region_any hm ?_
  have hQ : ∀ (gs : List (Nat × Obj)) (a : Act) (w : World) (m : Nat), C m w → (∀ p ∈ gs, Held H w p) → (∀ m w, C m w → (∀ p ∈ gs, Held H w p) → wpList P l.toArray Q [o] a w) →
      (o.wp P a w (fun a' w' => Q .normal a' w') Q ∨ (o.asks P a w ∧ LetsOut Q)) := by
    intro gs a w m hC hh hq
    have := hq m w hC hh
    have hwa : Region.wanted o (yielded l.toArray a.tmps) = true := by simp [Region.wanted, hg']
    simp only [wpList, hwa, if_true] at this
    exact this
  exact wpAny_of_E (md := .any) (N := l.length) (M := 0) (own := fun _ => none) (Sh := fun _ => False) hn (by simp [hlen]) (by
      intro i hi'
      have := List.all_eq_true.1 hw i (List.mem_range.2 (by omega))
      obtain ⟨e, he, hb⟩ := Array.any_eq_true'.1 this
      simp only [Bool.and_eq_true, beq_iff_eq] at hb
      exact ⟨e, he, hb.1, hb.2⟩) (by
      intro i p hp e he
      have hlt : i < l.length := by have := (Array.getElem?_eq_some_iff.1 hp).1; simpa using this
      have := List.all_eq_true.1 hac i (List.mem_range.2 hlt)
      have hp' : l[i]? = some p := by simpa using hp
      rw [hp'] at this
      simp only [Option.map_some, Option.getD_some] at this
      have := Array.all_eq_true_iff_forall_mem.1 this e he
      simpa using this) hg' hd' hCa hCH (fun _ _ _ => Nat.zero_le _) (fun _ _ _ _ _ _ _ h => by cases h) (fun _ _ _ _ h => by cases h) hQ l.toArray.size (Array.replicate l.toArray.size false) [] a { wn with drawn := wn.drawn + 1 } 0 (by simp) (by simp [hlen]) hC0 (by simp) (by simp) (fun p hp => by cases hp) (by
      rw [hset]; simpa [hlen] using h3)

/-- The whole region in whatever order, nothing of it set apart. -/
theorem wpAny_of_E0 (hCa : ∀ n w o, C n w → C n (w.alloc o)) (hCH : ∀ n w, C n w → H w.heap.size) {M : Nat} (hCM : ∀ n w, C n w → M ≤ w.heap.size)
    (hown : ∀ (i j : Nat) (x y : Oper) (g : Nat), ops[i]? = some x → ops[j]? = some y → own x = some g → own y = some g → i = j)
    (hCp : ∀ (i : Nat) (x : Oper) (g : Nat), ops[i]? = some x → own x = some g → H g ∧ g < M ∧ ∀ n w ob, Sh ob → C n w → C n (wput w g ob)) {T : List (Nat × Obj) → Act → Prop}
    {Q' : Exit → Act → World → Prop} (hQ : ∀ gs a w m, C m w → (∀ p ∈ gs, Held H w p) → T gs a → Q' .normal a w) :
    ∀ (fuel : Nat) (listed : Array Bool) (gs : List (Nat × Obj)) (a : Act) (w : World) (m : Nat), listed.size = ops.size → C m w → m + fuel ≤ N → (∀ p ∈ gs, Held H w p) → Tell own ops M listed gs →
      wpAnyE P md C H N Post Sh needs own ops T fuel listed gs a → wpAny P md ops Q' fuel listed a w
  | 0, _, gs, a, w, m, _, hC, _, hh, _, h => ⟨h.1, hQ gs a w m hC hh h.2⟩
  | fuel + 1, listed, gs, a, w, m, hls, hC, hm, hh, ht, h => by
    refine ⟨fun h0 => hQ gs a w m hC hh (h.1 h0), fun i hi => ?_⟩
    obtain ⟨hiun, oi, hoi, _⟩ := mem_ready.1 hi
    have h2 := h.2 i hi oi hoi
    refine wpOp_of_E hCa hCH hCM hls hown hCp hiun hoi hC (by omega) hh ht h2.1 (R := fun gs' a' => wpAnyE P md C H N Post Sh needs own ops T fuel (listed.setIfInBounds i true) gs' a') h2.2 (fun gs' a' w' m' hm' hC' hh' ht' hR' => ?_)
    exact wpAny_of_E0 hCa hCH hCM hown hCp hQ fuel _ gs' a' w' m' (by simp [hls]) hC' (by omega) hh' ht' hR'
/-- No two operations own one block. -/
def ownB (own : Oper → Option Nat) (l : List Oper) : Prop := ∀ (i j : Nat) (x y : Oper) (g : Nat), l[i]? = some x → l[j]? = some y → own x = some g → own y = some g → i = j
/-- A region that draws its order, with stores into blocks that it owns: one walk, in the text's order. -/
theorem wp_region_E0 {id : Nat} {Q : Exit → Act → World → Prop} {a : Act} {wn : World} {l : List Oper} (C : Nat → World → Prop) (H : Nat → Prop) (M : Nat) (Post : FuncId → Array Value → Value → Prop) (Sh : Obj → Prop) (own : Oper → Option Nat)
    (hm : P.follows .mixedOrders = true) (hB : Region.lexB .any l.toArray = true)
    (hC0 : C 0 wn.drew) (hCa : ∀ n w o, C n w → C n (w.alloc o)) (hCH : ∀ n w, C n w → H w.heap.size) (hCM : ∀ n w, C n w → M ≤ w.heap.size)
    (hnd : ∀ (f : FuncId) (args : Array Value), ∀ p ∈ needs f args, ∀ x ∈ l, own x ≠ some p.1) (hown : ownB own l) (hCp : ∀ x ∈ l, ∀ g, own x = some g → H g ∧ g < M ∧ ∀ n w ob, Sh ob → C n w → C n (wput w g ob))
    (h : wpE P C H l.length Post Sh needs own l.toArray (fun gs a' => ∀ m w, C m w → (∀ p ∈ gs, Held H w p) → Q .normal a' w) l [] a) : (Code.region id l.toArray true).wp P Q a wn := by
  simp only [Region.lexB, Bool.and_eq_true] at hB
  have hTm : ∀ (gs gs' : List (Nat × Obj)) (a : Act), (∀ p ∈ gs, p ∈ gs') → (∀ m w, C m w → (∀ p ∈ gs, Held H w p) → Q .normal a w) → (∀ m w, C m w → (∀ p ∈ gs', Held H w p) → Q .normal a w) :=
    fun gs gs' a hs h m w hC hh => h m w hC (fun p hp => hh p (hs p hp))
  have hp' : ∀ (i : Nat) (x : Oper) (g : Nat), l.toArray[i]? = some x → own x = some g → H g ∧ g < M ∧ ∀ n w ob, Sh ob → C n w → C n (wput w g ob) := fun i x g hx ho => by
    have hx' : l[i]? = some x := by simpa using hx
    exact hCp x (List.mem_of_getElem? hx') g ho
  have h3 := wpAnyE_lex (md := .any) hTm (n0 := 0) (N := l.length) hCa (fun f args p hp i x hx => hnd f args p hp x (List.mem_of_getElem? (by simpa using hx))) hC0 (fun i x g hx ho => by have := hCM 0 _ hC0; have := (hp' i x g hx ho).2.1; omega) hB.1 l 0 (Array.replicate l.toArray.size false) [] a (by simp) (by simpa using hB.2) h
  refine wp_region_any hm ?_
  have := wpAny_of_E0 (md := .any) (N := l.length) hCa hCH hCM (fun i j x y g hx hy => hown i j x y g (by simpa using hx) (by simpa using hy)) hp' (fun gs a w m hC hh hT => hT m w hC hh)
    l.length (Array.replicate l.toArray.size false) [] a { wn with drawn := wn.drawn + 1 } 0 (by simp) hC0 (by simp) (by simp) (fun p hp => by cases hp) h3
  simpa using this

/-- A world of the class. -/
structure LatC (C : Nat → World → Prop) where
  n : Nat
  x : World
  h : C n x
/-- Operations that never enter a function. -/
def plainB : Op → Bool
  | .move _ | .assign _ | .pick _ _ _ | .build _ _ | .load _ _ | .binOp _ _ _ _ _ | .unOp _ _ _ | .convert _ _ _ | .fieldAddr _ _ _ | .field _ _ _ | .indexAddr _ _ _ | .index _ _ _ | .slice _ _ _ _ _ | .extract _ _ => true
  | _ => false
theorem value_not {α : Type} {s : Sem α} {g : α → Value} (w w' : World) (f : FuncId) (args : Array Value) : Sem.run P (s >>= fun x => pure (Next.value (g x))) w ≠ .ok (.enter f args) w' := by
  rw [Sem.run_bind]
  intro h
  cases hs : s.run P w with
  | ok x w1 =>
    rw [hs] at h
    have h2 : (Result.ok (Next.value (g x)) w1 : Result Next) = .ok (.enter f args) w' := h
    cases h2
  | halt x w1 => rw [hs] at h; cases h
theorem plain_not {o : Oper} (hp : plainB o.op = true) (ρ : Operand → Value) (w w' : World) (f : FuncId) (args : Array Value) : (execOp ρ o).run P w ≠ .ok (.enter f args) w' := by
  unfold execOp
  cases ho : o.op <;> rw [ho] at hp <;> first | (simp [plainB] at hp; done) | exact value_not (g := id) w w' f args | exact value_not w w' f args | (intro h; cases h; done) | skip

section
variable {T : List (Nat × Obj) → Act → Prop} {o : Oper} {rest : List Oper} {gs : List (Nat × Obj)} {a : Act}
theorem alloc_ne (w : World) (ob : Obj) : w.alloc ob ≠ w := by
  intro h
  have := congrArg (fun x : World => x.heap.size) h
  simp at this
/-- One operation that only reads, by the walk of quiet regions. -/
theorem wpE_one (hp : plainB o.op = true) (hk : own o = none) (h : wpQuiet P ops (fun w' => ∃ l : LatC C, w' = l.x) (fun a' => wpE P C H N Post Sh needs own ops T rest gs a') [o] a) : wpE P C H N Post Sh needs own ops T (o :: rest) gs a := by
  simp only [wpQuiet] at h
  by_cases hw : Region.wanted o (yielded ops a.tmps) = true
  · simp only [hw, if_true] at h
    obtain ⟨v, h1, h2⟩ := h
    refine ⟨fun _ n w hC => ?_, fun u add hu => ?_⟩
    · have h3 := h1 w ⟨⟨n, w, hC⟩, rfl⟩
      unfold Oper.quietAt at h3
      cases hr : (execOp a.eval o).run P w with
      | halt y w' => rw [hr] at h3; cases h3
      | ok y w' =>
        rw [hr] at h3
        cases y with
        | value x => exact .inl h3.1
        | skip => rw [hk]; exact h3.1
        | enter f args => exact absurd hr (plain_not hp _ _ _ _ _)
        | defer d => cases h3
        | row r args => cases h3
        | _ => cases h3
    · unfold OutW at hu
      rw [if_pos hw] at hu
      obtain ⟨n, w, hC, hu⟩ := hu
      have h3 := h1 w ⟨⟨n, w, hC⟩, rfl⟩
      unfold Oper.quietAt at h3
      cases hr : (execOp a.eval o).run P w with
      | halt y w' => rw [hr] at h3; cases h3
      | ok y w' =>
        rw [hr] at h3 hu
        cases y with
        | value x =>
          obtain ⟨e1, e2⟩ := h3
          obtain ⟨e3, ⟨_, e4⟩ | ⟨ob, e4, _⟩⟩ := hu
          · rw [e3, e4, e2]; exact h2
          · exact absurd (e4.symm.trans e1) (alloc_ne w ob)
        | skip =>
          obtain ⟨e1, e2⟩ := h3
          rw [hk] at hu
          obtain ⟨e3, _, e4⟩ := hu
          rw [e3, e4, ← e2]; exact h2
        | enter f args => exact absurd hr (plain_not hp _ _ _ _ _)
        | defer d => cases h3
        | row r args => cases h3
        | _ => cases h3
  · simp only [hw] at h
    refine ⟨fun h' => absurd h' hw, fun u add hu => ?_⟩
    unfold OutW at hu
    rw [if_neg hw] at hu
    rw [hu.1, hu.2]; exact h
/-- One operation that its guard leaves out. -/
theorem wpE_off (hw : Region.wanted o (yielded ops a.tmps) = false) (h : wpE P C H N Post Sh needs own ops T rest gs (a.put o.dst undef)) : wpE P C H N Post Sh needs own ops T (o :: rest) gs a := by
  refine ⟨fun h' => (by rw [hw] at h'; cases h'), fun u add hu => ?_⟩
  unfold OutW at hu
  rw [if_neg (by rw [hw]; exact Bool.false_ne_true)] at hu
  rw [hu.1, hu.2]; exact h
/-- A call, by its contract. -/
theorem wpE_call {f : FuncId} {args : Array Value} (hw : Region.wanted o (yielded ops a.tmps) = true) (hrun : ∀ w, (execOp a.eval o).run P w = .ok (.enter f args) w)
    (hc : Contract P C H N Post needs f args) (hx : ∃ u, Post f args u) (hn : ∀ p ∈ needs f args, p ∈ gs) (h : ∀ u, Post f args u → wpE P C H N Post Sh needs own ops T rest gs (a.put o.dst u)) : wpE P C H N Post Sh needs own ops T (o :: rest) gs a := by
  refine ⟨fun _ n w hC => by rw [hrun]; exact ⟨rfl, hc, hx, hn⟩, fun u add hu => ?_⟩
  unfold OutW at hu
  rw [if_pos hw] at hu
  obtain ⟨n, w, hC, hu⟩ := hu
  rw [hrun] at hu
  rw [hu.2]; exact h u hu.1
/-- What makes a block anew. -/
theorem wpE_new {L : Nat} {mk : Nat → Value} {ob : Obj} (hw : Region.wanted o (yielded ops a.tmps) = true) (hCH : ∀ n w, C n w → L ≤ w.heap.size) (hrun : ∀ w, (execOp a.eval o).run P w = .ok (.value (mk w.heap.size)) (w.alloc ob))
    (h : ∀ g, L ≤ g → wpE P C H N Post Sh needs own ops T rest ((g, ob) :: gs) (a.put o.dst (mk g))) : wpE P C H N Post Sh needs own ops T (o :: rest) gs a := by
  refine ⟨fun _ n w hC => by rw [hrun]; exact .inr ⟨ob, rfl⟩, fun u add hu => ?_⟩
  unfold OutW at hu
  rw [if_pos hw] at hu
  obtain ⟨n, w, hC, hu⟩ := hu
  rw [hrun] at hu
  obtain ⟨e3, ⟨e4, _⟩ | ⟨ob', e4, e5⟩⟩ := hu
  · exact absurd e4 (alloc_ne w ob)
  · have : ob' = ob := by
      have h2 := congrArg (fun x : World => x.heap[w.heap.size]?) e4
      have h3 : ∀ q : Obj, (w.alloc q).heap[w.heap.size]? = some q := fun q => by
        show (w.heap.push q)[w.heap.size]? = some q
        simp
      simp only [h3] at h2
      exact (Option.some.inj h2).symm
    rw [e3, e5, this]
    exact h _ (hCH n w hC)
/-- A store into a block that the operation owns. -/
theorem wpE_poke {g : Nat} {ob : Obj} (hw : Region.wanted o (yielded ops a.tmps) = true) (hk : own o = some g) (hsh : Sh ob) (hg : ∀ n w, C n w → g < w.heap.size) (hrun : ∀ n w, C n w → (execOp a.eval o).run P w = .ok .skip (wput w g ob))
    (h : wpE P C H N Post Sh needs own ops T rest ((g, ob) :: gs) (a.put o.dst undef)) : wpE P C H N Post Sh needs own ops T (o :: rest) gs a := by
  refine ⟨fun _ n w hC => by rw [hrun n w hC, hk]; exact ⟨ob, hsh, rfl⟩, fun u add hu => ?_⟩
  unfold OutW at hu
  rw [if_pos hw] at hu
  obtain ⟨n, w, hC, hu⟩ := hu
  rw [hrun n w hC, hk] at hu
  obtain ⟨e1, ob', e2, e3⟩ := hu
  have : (wput w g ob).heap[g]? = some ob := by simp [wput, hg n w hC]
  rw [this] at e2
  rw [e1, e3, ← Option.some.inj e2]; exact h
theorem wpE_nil (h : T gs a) : wpE P C H N Post Sh needs own ops T [] gs a := h
end
theorem held_cell {H : Nat → Prop} {w : World} {g : Nat} {vs : Array Value} {t : TypeId} (h : Held H w (g, .cells vs t)) (i : Nat) (hi : i < vs.size) : w.cell? ⟨g, i, none⟩ = some vs[i] := by
  have h2 : w.heap[g]? = some (.cells vs t) := h.2
  unfold World.cell?
  simp [h2, hi]
theorem held_frozen {H : Nat → Prop} {w : World} {g : Nat} {vs : Array Value} {t : TypeId} (h : Held H w (g, .cells vs t)) (i : Nat) : w.frozen? ⟨g, i, none⟩ = false := by
  have h2 : w.heap[g]? = some (.cells vs t) := h.2
  unfold World.frozen?
  simp [h2]
theorem held_lt {H : Nat → Prop} {w : World} {p : Nat × Obj} (h : Held H w p) : p.1 < w.heap.size := (Array.getElem?_eq_some_iff.1 h.2).1

/-- Which slot's pointer a store goes through, of those that are owned. -/
def keyOf (ts : List Nat) (o : Oper) : Option Nat := match o.op with
  | .store _ (.tmp t) _ => if ts.contains t then some t else none
  | _ => none
def keyB (ts : List Nat) (l : List Oper) : Bool := (List.range l.length).all fun i => (List.range l.length).all fun j => match l[i]?, l[j]? with
  | some x, some y => (keyOf ts x).isNone || !(keyOf ts x == keyOf ts y) || i == j
  | _, _ => true
def ownBy (ts : List Nat) (blk : Nat → Nat) (o : Oper) : Option Nat := (keyOf ts o).map blk
theorem keyOf_mem {ts : List Nat} {o : Oper} {t : Nat} (h : keyOf ts o = some t) : t ∈ ts := by
  unfold keyOf at h
  split at h
  · split at h
    · rename_i hc; simp at h; subst h; simpa using hc
    · cases h
  · cases h
theorem ownB_of_key {ts : List Nat} {blk : Nat → Nat} {l : List Oper} (hB : keyB ts l = true) (hinj : ∀ t ∈ ts, ∀ t' ∈ ts, blk t = blk t' → t = t') : ownB (ownBy ts blk) l := by
  intro i j x y g hx hy hox hoy
  unfold ownBy at hox hoy
  cases kx : keyOf ts x with
  | none => rw [kx] at hox; cases hox
  | some t =>
    cases ky : keyOf ts y with
    | none => rw [ky] at hoy; cases hoy
    | some t' =>
      rw [kx] at hox; rw [ky] at hoy
      simp at hox hoy
      have ht : t = t' := hinj t (keyOf_mem kx) t' (keyOf_mem ky) (by rw [hox, hoy])
      have hi : i < l.length := (List.getElem?_eq_some_iff.1 hx).1
      have hj : j < l.length := (List.getElem?_eq_some_iff.1 hy).1
      have h1 := List.all_eq_true.1 hB i (List.mem_range.2 hi)
      have h2 := List.all_eq_true.1 h1 j (List.mem_range.2 hj)
      simp only [hx, hy, kx, ky, ht] at h2
      simpa using h2
theorem ownBy_mem {ts : List Nat} {blk : Nat → Nat} {o : Oper} {g : Nat} (h : ownBy ts blk o = some g) : ∃ t ∈ ts, blk t = g := by
  unfold ownBy at h
  cases k : keyOf ts o with
  | none => rw [k] at h; cases h
  | some t => rw [k] at h; exact ⟨t, keyOf_mem k, by simpa using h⟩
end
end Go.RegP
