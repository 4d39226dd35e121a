/- What is proved: a region of Go text whose order of evaluation is open, whose operations only read what was there while its callees only make memory, and whose last operations each wait for all ahead of them, may be walked once, in the order of the text. No conditions. -/
import Derived.Test.YtajkaaeckmfamaaLat
namespace Go.LatT
open Go.RowKit
section
variable {P : Program} {C : World → Prop} {md : Region.Mode}
theorem getD_ff {l : Array Bool} {i : Nat} (h : i < l.size) (h2 : l.getD i true = false) : l.getD i false = false := by
  simp [h] at h2 ⊢
  exact h2
theorem some_readyB {ops : Array Oper} {listed : Array Bool} (hac : ∀ (i : Nat) (o : Oper), ops[i]? = some o → ∀ e ∈ o.after, Region.binds md e = true → e.on < i) (hls : listed.size = ops.size) :
    ∀ (k n : Nat), n ≤ k → n < ops.size → listed.getD n true = false → Region.ready md ops listed ≠ [] := by
  intro k
  induction k with
  | zero =>
    intro n hk hn hu h0
    have : n = 0 := by omega
    subst this
    have hm : 0 ∈ Region.ready md ops listed := mem_ready.2 ⟨hu, ops[0], by simp [hn], fun e he hb => by have := hac 0 ops[0] (by simp [hn]) e he hb; omega⟩
    rw [h0] at hm; cases hm
  | succ k ih =>
    intro n hk hn hu h0
    by_cases hall : ∀ e ∈ (ops[n]'hn).after, Region.binds md e = true → listed.getD e.on false = true
    · have hm : n ∈ Region.ready md ops listed := mem_ready.2 ⟨hu, ops[n], by simp [hn], hall⟩
      rw [h0] at hm; cases hm
    · obtain ⟨e, he⟩ := Classical.not_forall.1 hall
      obtain ⟨hm, he⟩ := Classical.not_imp.1 he
      obtain ⟨hb, he⟩ := Classical.not_imp.1 he
      have hlt := hac n ops[n] (by simp [hn]) e hm hb
      refine ih e.on (by omega) (by omega) ?_ h0
      have hs : e.on < listed.size := by omega
      simp [hs] at he ⊢
      exact he
/-- What stands in the list, so does all that it waits for. -/
def Clo (md : Region.Mode) (ops : Array Oper) (listed : Array Bool) : Prop := ∀ j o, ops[j]? = some o → listed.getD j false = true → ∀ e ∈ o.after, Region.binds md e = true → listed.getD e.on false = true
/-- An operation waits, by others between, for each ahead of it. -/
def Wts (md : Region.Mode) (ops : Array Oper) (i : Nat) : Prop := ∀ k, k < i → ∃ j oj, k < j ∧ j ≤ i ∧ ops[j]? = some oj ∧ ∃ e ∈ oj.after, Region.binds md e = true ∧ e.on = k
theorem Clo.all {ops : Array Oper} {listed : Array Bool} {i : Nat} (hc : Clo md ops listed) (hi : i ∈ Region.ready md ops listed) (hw : Wts md ops i) : ∀ k, k < i → listed.getD k false = true := by
  obtain ⟨_, o, ho, hd⟩ := mem_ready.1 hi
  have key : ∀ d k, k < i → i - 1 - k ≤ d → listed.getD k false = true := by
    intro d
    induction d with
    | zero =>
      intro k hk hd0
      obtain ⟨j, oj, h1, h2, h3, e, he, hb, hon⟩ := hw k hk
      have : j = i := by omega
      subst this
      obtain rfl : oj = o := Option.some.inj (h3.symm.trans ho)
      have := hd e he hb
      rwa [hon] at this
    | succ d ih =>
      intro k hk hd0
      obtain ⟨j, oj, h1, h2, h3, e, he, hb, hon⟩ := hw k hk
      by_cases hji : j = i
      · subst hji
        obtain rfl : oj = o := Option.some.inj (h3.symm.trans ho)
        have := hd e he hb
        rwa [hon] at this
      · have h4 := ih j (by omega) (by omega)
        have := hc j oj h3 h4 e he hb
        rwa [hon] at this
  exact fun k hk => key (i - 1 - k) k hk (Nat.le_refl _)
theorem Clo.set {ops : Array Oper} {listed : Array Bool} {i : Nat} (hc : Clo md ops listed) (hi : i ∈ Region.ready md ops listed) (hs : listed.size = ops.size) : Clo md ops (listed.setIfInBounds i true) := by
  obtain ⟨_, o, ho, hd⟩ := mem_ready.1 hi
  have hil : i < listed.size := by rw [hs]; exact (Array.getElem?_eq_some_iff.1 ho).1
  intro j oj hoj hj e he hb
  by_cases hei : i = e.on
  · rw [← hei]; simp [hil]
  · rw [getD_set_ne false hei]
    by_cases hji : i = j
    · subst hji
      obtain rfl : oj = o := Option.some.inj (hoj.symm.trans ho)
      exact hd e he hb
    · rw [getD_set_ne false hji] at hj
      exact hc j oj hoj hj e he hb
/-- Operations of which each waits for all ahead of it are walked one by one. -/
theorem wpAny_list {ops : Array Oper} {Q' : Exit → Act → World → Prop} : ∀ (tl : List Oper) (m f : Nat) (listed : Array Bool) (a : Act) (w : World), tl.length ≤ f → m + tl.length = ops.size → (∀ j, j < tl.length → tl[j]? = ops[m + j]?) → listed.size = ops.size → (∀ i, i < m → listed.getD i false = true) → (∀ i, m ≤ i → i < ops.size → listed.getD i true = false) →
    (∀ i o, m ≤ i → ops[i]? = some o → (∀ e ∈ o.after, Region.binds md e = true → e.on < i) ∧ Wts md ops i) → Clo md ops listed →
    wpList P ops Q' tl a w → wpAny P md ops Q' f listed a w
  | [], m, f, listed, a, w, _, hz, _, hs, hd, hu, _, _, h => by
    refine wpAny_stop ?_ f a w h
    apply List.eq_nil_iff_forall_not_mem.2
    intro i hi
    obtain ⟨h1, o, ho, _⟩ := mem_ready.1 hi
    have hlt : i < ops.size := (Array.getElem?_eq_some_iff.1 ho).1
    have h2 := hd i (by simpa using (show i < m by simp at hz; omega))
    rw [getD_ff (by omega) h1] at h2
    cases h2
  | o :: tl, m, 0, listed, a, w, hf, _, _, _, _, _, _, _, _ => by simp at hf
  | o :: tl, m, f + 1, listed, a, w, hf, hz, hl, hs, hd, hu, hw, hc, h => by
    simp only [List.length_cons] at hf hz
    have hm : m < ops.size := by omega
    have ho : ops[m]? = some o := by have := hl 0 (by simp); simpa using this.symm
    obtain ⟨hac, _⟩ := hw m o (Nat.le_refl _) ho
    have hmr : m ∈ Region.ready md ops listed := mem_ready.2 ⟨hu m (Nat.le_refl _) hm, o, ho, fun e he hb => hd e.on (hac e he hb)⟩
    refine ⟨fun h0 => (by rw [h0] at hmr; cases hmr), fun i hi => ?_⟩
    obtain ⟨h1, oi, hoi, h2⟩ := mem_ready.1 hi
    have hil : i < ops.size := (Array.getElem?_eq_some_iff.1 hoi).1
    have him : i = m := by
      rcases Nat.lt_trichotomy i m with hlt | heq | hgt
      · have h3 := hd i hlt
        rw [getD_ff (by omega) h1] at h3
        cases h3
      · exact heq
      · have h3 := hc.all hi (hw i oi (by omega) hoi).2 m hgt
        rw [getD_ff (by omega) (hu m (Nat.le_refl _) hm)] at h3
        cases h3
    subst him
    have ih : ∀ a w, wpList P ops Q' tl a w → wpAny P md ops Q' f (listed.setIfInBounds i true) a w := fun a w h => by
      refine wpAny_list tl (i + 1) f _ a w (by omega) (by omega) (fun j hj => ?_) (by simp [hs]) (fun k hk => ?_) (fun k hk hk2 => ?_) (fun k o' hk ho' => hw k o' (by omega) ho') (hc.set hi hs) h
      · have := hl (j + 1) (by simp; omega)
        simpa [Nat.add_assoc, Nat.add_comm 1 j] using this
      · by_cases hki : i = k
        · subst hki; have : i < listed.size := by omega
          simp [this]
        · have h3 := hd k (by omega)
          have hk3 : k < listed.size := by omega
          simp [hk3] at h3 ⊢
          rw [Array.getElem_setIfInBounds (by simpa using hk3)]
          simp [hki, h3]
      · rw [getD_set_ne true (by omega)]; exact hu k (by omega) hk2
    unfold wpOp
    rw [ho]
    simp only [wpList] at h
    simp only
    split
    · rename_i hwa; simp only [hwa, if_true] at h
      exact h.imp (fun h5 => Oper.wp_mono ih h5) (fun h5 => h5)
    · rename_i hwa; simp only [hwa] at h
      exact ih _ _ h

theorem yielded_app {init tl : List Oper} (tmps : Array Value) {j : Nat} (hj : j < init.length) : yielded (init ++ tl).toArray tmps j = yielded init.toArray tmps j := by
  unfold yielded
  have : (init ++ tl).toArray[j]? = init.toArray[j]? := by simp [List.getElem?_append_left hj]
  rw [this]

theorem wanted_app {init tl : List Oper} (tmps : Array Value) {o : Oper} (hg : ∀ g, o.guard = some g → g.1 < init.length) : Region.wanted o (yielded (init ++ tl).toArray tmps) = Region.wanted o (yielded init.toArray tmps) := by
  unfold Region.wanted
  cases h : o.guard with
  | none => rfl
  | some g => simp only; rw [yielded_app tmps (hg g h)]

theorem wpAny_of_quiet_tail {init tl : List Oper} {Q : Act → Prop} {Q' : Exit → Act → World → Prop}
    (hac : ∀ (i : Nat) (o : Oper), (init ++ tl).toArray[i]? = some o → ∀ e ∈ o.after, Region.binds md e = true → e.on < i)
    (hwt : ∀ i o, init.length ≤ i → (init ++ tl).toArray[i]? = some o → Wts md (init ++ tl).toArray i)
    (hgd : ∀ (i : Nat) (o : Oper), init[i]? = some o → ∀ g, o.guard = some g → g.1 < init.length)
    (hQ : ∀ a w, C w → Q a → wpList P (init ++ tl).toArray Q' tl a w) :
    ∀ (f : Nat) (lI l : Array Bool) (a : Act) (w : World), lI.size = init.length → l.size = init.length + tl.length → (∀ i, i < init.length → l.getD i true = lI.getD i true) → (∀ i, init.length ≤ i → i < init.length + tl.length → l.getD i true = false) → Clo md (init ++ tl).toArray l → C w →
      wpAnyQ P md init.toArray C Q f lI a → wpAny P md (init ++ tl).toArray Q' (f + tl.length) l a w := by
  have hidx : ∀ i, i < init.length → (init ++ tl).toArray[i]? = init.toArray[i]? := fun i hi => by simp [List.getElem?_append_left hi]
  have hst : ∀ (f : Nat) (lI l : Array Bool) (a : Act) (w : World), lI.size = init.length → l.size = init.length + tl.length → (∀ i, i < init.length → l.getD i true = lI.getD i true) → (∀ i, init.length ≤ i → i < init.length + tl.length → l.getD i true = false) → Clo md (init ++ tl).toArray l → C w → Region.ready md init.toArray lI = [] → Q a → wpAny P md (init ++ tl).toArray Q' (f + tl.length) l a w := by
    intro f lI l a w hI hl he hu hc hC h0 hq
    have hall : ∀ i, i < init.length → lI.getD i true = true := fun i hi => by
      cases h : lI.getD i true
      · exact absurd h0 (some_readyB (fun j o ho e hee hb => hac j o (by rw [hidx j (by have := (Array.getElem?_eq_some_iff.1 ho).1; simpa using this)]; exact ho) e hee hb) (by simpa using hI) i i (Nat.le_refl _) (by simpa using hi) h)
      · rfl
    refine wpAny_list tl init.length (f + tl.length) l a w (by omega) (by simp) (fun j hj => by simp [List.getElem?_append_right]) (by simpa using hl) (fun i hi => ?_) (fun i hi hi2 => hu i hi (by simpa using hi2)) (fun i o hi ho => ⟨hac i o ho, hwt i o hi ho⟩) hc (hQ a w hC hq)
    have h1 := he i hi
    rw [hall i hi] at h1
    have : i < l.size := by omega
    simp [this] at h1 ⊢
    exact h1
  intro f
  induction f with
  | zero =>
    intro lI l a w hI hl he hu hc hC h
    exact hst 0 lI l a w hI hl he hu hc hC h.1 h.2
  | succ f ih =>
    intro lI l a w hI hl he hu hc hC h
    by_cases h0 : Region.ready md init.toArray lI = []
    · exact hst (f + 1) lI l a w hI hl he hu hc hC h0 (h.1 h0)
    · obtain ⟨i0, r0, hr0⟩ := List.exists_cons_of_ne_nil h0
      have hi0 : i0 ∈ Region.ready md init.toArray lI := by rw [hr0]; simp
      obtain ⟨u0, o0, ho0, d0⟩ := mem_ready.1 hi0
      have hi0n : i0 < init.length := by have := (Array.getElem?_eq_some_iff.1 ho0).1; simpa using this
      have cv : ∀ k, k < init.length → l.getD k false = lI.getD k false := fun k hk => by
        have h1 := he k hk
        have a1 : k < l.size := by omega
        have a2 : k < lI.size := by omega
        simp [a1, a2] at h1 ⊢
        exact h1
      rw [show f + 1 + tl.length = (f + tl.length) + 1 by omega]
      have hm0 : i0 ∈ Region.ready md (init ++ tl).toArray l := mem_ready.2 ⟨by rw [he i0 hi0n]; exact u0, o0, by rw [hidx i0 hi0n]; exact ho0, fun e hee hb => by
        rw [cv e.on (by have := hac i0 o0 (by rw [hidx i0 hi0n]; exact ho0) e hee hb; omega)]; exact d0 e hee hb⟩
      refine ⟨fun hz => (by rw [hz] at hm0; cases hm0), fun i hi => ?_⟩
      obtain ⟨h1, oi, hoi, h2⟩ := mem_ready.1 hi
      have hin : i < init.length := by
        rcases Nat.lt_or_ge i init.length with h | h
        · exact h
        · have h3 := hc.all hi (hwt i oi h hoi) i0 (by omega)
          have := he i0 hi0n
          rw [u0] at this
          rw [getD_ff (by omega) this] at h3
          cases h3
      have hoi' : init.toArray[i]? = some oi := by rw [← hidx i hin]; exact hoi
      have hiI : i ∈ Region.ready md init.toArray lI := mem_ready.2 ⟨by rw [← he i hin]; exact h1, oi, hoi', fun e hee hb => by
        rw [← cv e.on (by have := hac i oi hoi e hee hb; omega)]; exact h2 e hee hb⟩
      have h4 := h.2 i hiI
      have hwn : ∀ tmps, Region.wanted oi (yielded (init ++ tl).toArray tmps) = Region.wanted oi (yielded init.toArray tmps) := fun tmps => wanted_app tmps (hgd i oi (by simpa using hoi'))
      have h5 : qOp P (init ++ tl).toArray C i (wpAnyQ P md init.toArray C Q f (lI.setIfInBounds i true)) a := by
        unfold qOp at h4 ⊢
        rw [hoi'] at h4
        rw [hoi]
        simp only [hwn] at h4 ⊢
        exact h4
      refine wpOp_of_qOp hC (fun a' w' hw' h' => ih (lI.setIfInBounds i true) (l.setIfInBounds i true) a' w' (by simp [hI]) (by simp [hl]) (fun k hk => ?_) (fun k hk hk2 => ?_) (hc.set hi (by simpa using hl)) hw' h') h5
      · by_cases hki : i = k
        · subst hki
          have a1 : i < l.size := by omega
          have a2 : i < lI.size := by omega
          simp [a1, a2]
        · rw [getD_set_ne true hki, getD_set_ne true hki]; exact he k hk
      · rw [getD_set_ne true (by omega)]; exact hu k hk hk2
end
/-- What is asked of a region whose last operations each wait for all ahead of them, by a Bool. -/
def tailsB (init tl : List Oper) : Bool :=
  (List.range (init ++ tl).length).all (fun i => (((init ++ tl)[i]?).map fun p => p.after.all fun e => !Region.binds .any e || decide (e.on < i)).getD true) &&
  (List.range (init ++ tl).length).all (fun i => decide (i < init.length) || (List.range i).all fun k => (List.range (i + 1)).any fun j => decide (k < j) && (((init ++ tl)[j]?).map fun p => p.after.any fun e => Region.binds .any e && e.on == k).getD false) &&
  init.all (fun o => match o.guard with | none => true | some g => decide (g.1 < init.length)) && Region.lexB .any init.toArray
section
variable {P : Program}
theorem wp_region_lat_tails {id : Nat} {Q : Exit → Act → World → Prop} {a : Act} {w wn : World} {init tl : List Oper} (h0 : Below w.heap.size w wn) (hm : P.follows .mixedOrders = true) (hB : tailsB init tl = true)
    (h : Nonempty (Lat w) → (∀ (l : Lat w) (b o : Nat), b < w.heap.size → l.x.cell? ⟨b, o, none⟩ = w.cell? ⟨b, o, none⟩) →
      wpQuiet P init.toArray (fun w' => ∃ n : Lat w, w' = n.x) (fun a' => ∀ w', Below w.heap.size w w' → wpList P (init ++ tl).toArray Q tl a' w') init a) : (Code.region id (init ++ tl).toArray true).wp P Q a wn := by
  have h1 := h ⟨⟨w, Below.refl _ _⟩⟩ Lat.cell
  simp only [tailsB, Bool.and_eq_true] at hB
  obtain ⟨⟨⟨hac, hwt⟩, hgd⟩, hlex⟩ := hB
  simp only [Region.lexB, Bool.and_eq_true] at hlex
  have h3 := wpAnyQ_lex (C := fun w' => ∃ n : Lat w, w' = n.x) (md := .any) hlex.1 init 0 (Array.replicate init.toArray.size false) a (by simp) (by simpa using hlex.2) h1
  refine wp_region_any hm ?_
  have h4 := wpAny_of_quiet_tail (P := P) (C := fun w' => ∃ n : Lat w, w' = n.x) (md := .any) (init := init) (tl := tl) (Q := fun a' => ∀ w', Below w.heap.size w w' → wpList P (init ++ tl).toArray Q tl a' w') (Q' := Q) (by
      intro i o ho e hee hbe
      have hlt : i < (init ++ tl).length := by have := (Array.getElem?_eq_some_iff.1 ho).1; simpa using this
      have := List.all_eq_true.1 hac i (List.mem_range.2 hlt)
      have ho' : (init ++ tl)[i]? = some o := by simpa using ho
      rw [ho'] at this
      simp only [Option.map_some, Option.getD_some] at this
      have := Array.all_eq_true_iff_forall_mem.1 this e hee
      rw [hbe] at this
      simpa using this) (by
      intro i o hi ho k hk
      have hlt : i < (init ++ tl).length := by have := (Array.getElem?_eq_some_iff.1 ho).1; simpa using this
      have := List.all_eq_true.1 hwt i (List.mem_range.2 hlt)
      simp only [Bool.or_eq_true, decide_eq_true_eq] at this
      rcases this with h | h
      · omega
      · obtain ⟨j, hj, hj2⟩ := List.any_eq_true.1 (List.all_eq_true.1 h k (List.mem_range.2 hk))
        simp only [Bool.and_eq_true, decide_eq_true_eq] at hj2
        obtain ⟨hkj, hj3⟩ := hj2
        have hji := List.mem_range.1 hj
        cases hoj : (init ++ tl)[j]? with
        | none => rw [hoj] at hj3; simp at hj3
        | some oj =>
          rw [hoj] at hj3
          simp only [Option.map_some, Option.getD_some] at hj3
          obtain ⟨e, he, hb⟩ := Array.any_eq_true'.1 hj3
          simp only [Bool.and_eq_true, beq_iff_eq] at hb
          exact ⟨j, oj, hkj, by omega, by simpa using hoj, e, he, hb.1, hb.2⟩) (by
      intro i o ho g hg
      have := List.all_eq_true.1 hgd o (List.mem_of_getElem? ho)
      rw [hg] at this
      simpa using this) (fun a w1 hC hq => (lat_all w (fun w' => wpList P (init ++ tl).toArray Q tl a w')).2 hq w1 hC) init.length (Array.replicate init.toArray.size false) (Array.replicate (init ++ tl).toArray.size false) a { wn with drawn := wn.drawn + 1 } (by simp) (by simp) (fun i hi => by simp [hi, show i < init.length + tl.length by omega]) (fun i hi hi2 => by simp [hi2]) (fun j o _ hj => by exfalso; rw [show (Array.replicate (init ++ tl).toArray.size false).getD j false = false by simp only [Array.getD_eq_getD_getElem?, Array.getElem?_replicate]; split <;> rfl] at hj; cases hj) ⟨⟨wn.drew, h0.drew⟩, rfl⟩ (by simpa using h3)
  simpa using h4
/-- The same, the last three operations cut off by name. -/
theorem wp_region_lat_tail3 {id : Nat} {Q : Exit → Act → World → Prop} {a : Act} {w wn : World} {l init : List Oper} {o1 o2 o3 : Oper} (h0 : Below w.heap.size w wn) (hm : P.follows .mixedOrders = true)
    (hi : l.dropLast.dropLast.dropLast = init) (h1 : l.dropLast.dropLast.getLast? = some o1) (h2 : l.dropLast.getLast? = some o2) (h3 : l.getLast? = some o3) (hB : tailsB init [o1, o2, o3] = true)
    (h : Nonempty (Lat w) → (∀ (l : Lat w) (b o : Nat), b < w.heap.size → l.x.cell? ⟨b, o, none⟩ = w.cell? ⟨b, o, none⟩) →
      wpQuiet P init.toArray (fun w' => ∃ n : Lat w, w' = n.x) (fun a' => ∀ w', Below w.heap.size w w' → wpList P l.toArray Q [o1, o2, o3] a' w') init a) : (Code.region id l.toArray true).wp P Q a wn := by
  have cut : ∀ (l : List Oper) (o : Oper), l.getLast? = some o → l = l.dropLast ++ [o] := fun l o ho => by
    have hne : l ≠ [] := by intro e; rw [e] at ho; cases ho
    rw [List.getLast?_eq_some_getLast hne] at ho
    rw [← Option.some.inj ho]; exact (List.dropLast_concat_getLast hne).symm
  have hl : l = init ++ [o1, o2, o3] := by
    have c3 := cut l o3 h3
    have c2 := cut l.dropLast o2 h2
    have c1 := cut l.dropLast.dropLast o1 h1
    rw [hi] at c1
    rw [c3, c2, c1]
    simp
  rw [hl] at h ⊢
  exact wp_region_lat_tails h0 hm hB h
end
end Go.LatT
