/- What is proved: the contracts of Lat, Math, Opn, Own, ApdG, ApdK, BytM, AesM, RowQ, RegE, RegH, DrwA, one behind the other. The conditions stand at each theorem. -/
import Derived.Deep.Quiet
import Derived.Below
import Derived.BigQuiet
import Derived.IntWalk
import Derived.Laws.BitsAllLaws
import Derived.WalkKit
import Derived.ProofKit
import Derived.Lib.SmallJoins
import Derived.Lib.SliceRun
import Derived.Deep.Slices
import Derived.Laws.AppendOwn
import Derived.Deep.Heap
import Derived.OwnWalk
import Derived.Laws.OwnMore
import Derived.PlainAid
import Derived.Laws.Rows
import Derived.Laws.Tables
import Derived.Laws.Cells
import Derived.OrdersHeld
import Derived.Test.YtefmmopkikpnhaaGreatDoorProg
import Derived.WalkSpells
import Derived.WalkLawsBesides
import Derived.Deep.RegionWith
namespace Go.LatT
open Go.RowKit
section
variable {P : Program} {ops : Array Oper} {C : World → Prop} {md : Region.Mode}

/-- The operation, doing nothing in its place. -/
def blanked (o : Oper) : Oper := { o with op := .move (.const (.bool true)) }

theorem at_blank {n : Nat} {o : Oper} (hn : ops[n]? = some o) (j : Nat) : (ops.setIfInBounds n (blanked o))[j]? = if j = n then some (blanked o) else ops[j]? := by
  have hlt : n < ops.size := (Array.getElem?_eq_some_iff.1 hn).1
  rw [Array.getElem?_setIfInBounds]
  by_cases h : n = j
  · subst h; simp [hlt]
  · rw [if_neg h, if_neg (Ne.symm h)]

theorem ready_blank {n : Nat} {o : Oper} (hn : ops[n]? = some o) (listed : Array Bool) : Region.ready md (ops.setIfInBounds n (blanked o)) listed = Region.ready md ops listed := by
  unfold Region.ready
  rw [Array.size_setIfInBounds]
  apply List.filter_congr
  intro i _
  rw [at_blank hn]
  by_cases h : i = n
  · subst h; simp [hn, blanked]
  · rw [if_neg h]

theorem yielded_blank {n : Nat} {o : Oper} (hn : ops[n]? = some o) (tmps : Array Value) : yielded (ops.setIfInBounds n (blanked o)) tmps = yielded ops tmps := by
  funext j
  unfold yielded
  rw [at_blank hn]
  by_cases h : j = n
  · subst h; simp [hn, blanked]
  · rw [if_neg h]

theorem wpAny_stop {Q' : Exit → Act → World → Prop} {listed : Array Bool} (h0 : Region.ready md ops listed = []) (f : Nat) (a : Act) (w : World) (h : Q' .normal a w) : wpAny P md ops Q' f listed a w := by
  cases f with
  | zero => exact ⟨h0, h⟩
  | succ f => exact ⟨fun _ => h, fun i hi => by rw [h0] at hi; cases hi⟩

theorem some_ready {listed : Array Bool} (hac : ∀ (i : Nat) (o : Oper), ops[i]? = some o → ∀ e ∈ o.after, e.on < i) (hls : listed.size = ops.size) :
    ∀ (k n : Nat), n ≤ k → n < ops.size → listed.getD n true = false → Region.ready md ops listed ≠ [] := by
  intro k
  induction k with
  | zero =>
    intro n hk hn hu h0
    have : n = 0 := by omega
    subst this
    have hm : 0 ∈ Region.ready md ops listed := mem_ready.2 ⟨hu, ops[0], by simp [hn], fun e he _ => by have := hac 0 ops[0] (by simp [hn]) e he; omega⟩
    rw [h0] at hm; cases hm
  | succ k ih =>
    intro n hk hn hu h0
    by_cases hall : ∀ e ∈ (ops[n]'hn).after, Region.binds md e = true → listed.getD e.on false = true
    · have hm : n ∈ Region.ready md ops listed := mem_ready.2 ⟨hu, ops[n], by simp [hn], hall⟩
      rw [h0] at hm; cases hm
    · obtain ⟨e, he⟩ := Classical.not_forall.1 hall
      obtain ⟨hm, he⟩ := Classical.not_imp.1 he
      obtain ⟨_, he⟩ := Classical.not_imp.1 he
      have hlt := hac n ops[n] (by simp [hn]) e hm
      refine ih e.on (by omega) (by omega) ?_ h0
      have hs : e.on < listed.size := by omega
      simp [hs] at he ⊢
      exact he

theorem wpAny_of_quiet_last {n : Nat} {o : Oper} (hn : ops[n]? = some o) (hsz : ops.size = n + 1) (hwait : ∀ i, i < n → ∃ e ∈ o.after, Region.binds md e = true ∧ e.on = i)
    (hac : ∀ (i : Nat) (o : Oper), ops[i]? = some o → ∀ e ∈ o.after, e.on < i) (hg : o.guard = none) (hdst : o.dst = none)
    {Q : Act → Prop} {Q' : Exit → Act → World → Prop} (hQ : ∀ a w, C w → Q a → (o.wp P a w (fun a' w' => Q' .normal a' w') Q' ∨ (o.asks P a w ∧ LetsOut Q'))) :
    ∀ (fuel : Nat) (listed : Array Bool) (a : Act) (w : World), listed.size = ops.size → listed.getD n true = false → C w →
      wpAnyQ P md (ops.setIfInBounds n (blanked o)) C Q fuel listed a → wpAny P md ops Q' fuel listed a w
  | 0, listed, a, w, hls, hu, hC, h => by
    have h0 := h.1
    rw [ready_blank hn] at h0
    exact absurd h0 (some_ready hac hls n n (Nat.le_refl _) (by omega) hu)
  | fuel + 1, listed, a, w, hls, hu, hC, h => by
    refine ⟨fun h0 => absurd h0 (some_ready hac hls n n (Nat.le_refl _) (by omega) hu), fun i hi => ?_⟩
    have h2 := h.2 i (by rw [ready_blank hn]; exact hi)
    by_cases hin : i = n
    · subst hin
      have hall : ∀ j, j < i → listed.getD j false = true := by
        intro j hj
        obtain ⟨_, o', ho', ha⟩ := mem_ready.1 hi
        have : o' = o := Option.some.inj (ho'.symm.trans hn)
        subst this
        obtain ⟨e, he, hb, hon⟩ := hwait j hj
        rw [← hon]; exact ha e he hb
      have hdone : Region.ready md ops (listed.setIfInBounds i true) = [] := by
        apply List.eq_nil_iff_forall_not_mem.2
        intro j hj
        obtain ⟨hun, o', ho', _⟩ := mem_ready.1 hj
        have hjlt : j < ops.size := (Array.getElem?_eq_some_iff.1 ho').1
        by_cases hji : i = j
        · subst hji
          have : i < listed.size := by omega
          simp [this] at hun
        · rw [getD_set_ne true hji] at hun
          have h3 := hall j (by omega)
          have hs : j < listed.size := by omega
          simp [hs] at hun h3
          rw [hun] at h3; cases h3
      unfold qOp at h2
      rw [at_blank hn, if_pos rfl] at h2
      have hq : Q a := by
        have hput : ∀ (a : Act) (v : Value), a.put (blanked o).dst v = a := by intro a v; simp [blanked, hdst, Act.put]
        have hw : Region.wanted (blanked o) (yielded (ops.setIfInBounds i (blanked o)) a.tmps) = true := by simp [Region.wanted, blanked, hg]
        simp only [hw, if_true] at h2
        obtain ⟨v, _, h4⟩ := h2
        rw [hput] at h4
        have hd : Region.ready md (ops.setIfInBounds i (blanked o)) (listed.setIfInBounds i true) = [] := by rw [ready_blank hn]; exact hdone
        cases fuel with
        | zero => exact h4.2
        | succ f => exact h4.1 hd
      unfold wpOp
      rw [hn]
      have hw : Region.wanted o (yielded ops a.tmps) = true := by simp [Region.wanted, hg]
      simp only [hw, if_true]
      exact (hQ a w hC hq).imp (fun h5 => Oper.wp_mono (fun a' w' h' => wpAny_stop hdone fuel a' w' h') h5) (fun h5 => h5)
    · have h3 : qOp P ops C i (wpAnyQ P md (ops.setIfInBounds n (blanked o)) C Q fuel (listed.setIfInBounds i true)) a := by
        unfold qOp at h2 ⊢
        rw [at_blank hn, if_neg hin, yielded_blank hn] at h2
        exact h2
      exact wpOp_of_qOp hC (fun a' w' hw' h' => wpAny_of_quiet_last hn hsz hwait hac hg hdst hQ fuel _ a' w' (by simp [hls]) (by rw [getD_set_ne true hin]; exact hu) hw' h') h3

/-- What is asked of a region whose last operation waits for all others, by a Bool. -/
def lastB (l : List Oper) (o : Oper) : Bool :=
  o.guard.isNone && o.dst.isNone && (List.range (l.length - 1)).all (fun i => o.after.any fun e => Region.binds .any e && e.on == i) &&
  (List.range l.length).all (fun i => ((l[i]?).map fun p => p.after.all fun e => decide (e.on < i)).getD true) && Region.lexB .any (l.dropLast ++ [blanked o]).toArray

/-- A world that is as w was below w's own end. -/
structure Lat (w : World) where
  x : World
  h : Below w.heap.size w x
theorem Lat.cell {w : World} (l : Lat w) (b o : Nat) (h : b < w.heap.size) : l.x.cell? ⟨b, o, none⟩ = w.cell? ⟨b, o, none⟩ := l.h.cell (p := ⟨b, o, none⟩) h
theorem Lat.frozen {w : World} (l : Lat w) (b o : Nat) (h : b < w.heap.size) : l.x.frozen? ⟨b, o, none⟩ = w.frozen? ⟨b, o, none⟩ := l.h.frozen (p := ⟨b, o, none⟩) h
theorem lat_of {f : FuncId} {args : Array Value} {w : World} {l : Lat w} {v : Value}
    (h : Calls P f args l.x fun e w' => e = .returned v ∧ Below l.x.heap.size l.x w') : Calls P f args l.x fun e w'' => e = .returned v ∧ ∃ m : Lat w, w'' = m.x :=
  h.mono fun _ _ ⟨he, hm⟩ => ⟨he, ⟨_, l.h.trans (hm.mono l.h.size)⟩, rfl⟩
theorem lat_same {f : FuncId} {args : Array Value} {w : World} {l : Lat w} {v : Value}
    (h : Calls P f args l.x fun e w' => e = .returned v ∧ w' = l.x) : Calls P f args l.x fun e w'' => e = .returned v ∧ ∃ m : Lat w, w'' = m.x :=
  h.mono fun _ _ ⟨he, hm⟩ => ⟨he, l, hm⟩
theorem lat_all (w : World) (Q : World → Prop) : (∀ w', (∃ n : Lat w, w' = n.x) → Q w') ↔ ∀ w', Below w.heap.size w w' → Q w' :=
  ⟨fun h w' hb => h w' ⟨⟨w', hb⟩, rfl⟩, fun h w' ⟨n, e⟩ => by subst e; exact h _ n.h⟩

/-- A region that draws its order, reads what was there and calls what only makes memory: one walk, in the text's order. -/
theorem wp_region_lat {id : Nat} {Q : Exit → Act → World → Prop} {a : Act} {w wn : World} {l : List Oper} (h0 : Below w.heap.size w wn) (hm : P.follows .mixedOrders = true) (hB : Region.lexB .any l.toArray = true)
    (h : Nonempty (Lat w) → (∀ (l : Lat w) (b o : Nat), b < w.heap.size → l.x.cell? ⟨b, o, none⟩ = w.cell? ⟨b, o, none⟩) →
      wpQuiet P l.toArray (fun w' => ∃ n : Lat w, w' = n.x) (fun a' => ∀ w', Below w.heap.size w w' → Q .normal a' w') l a) : (Code.region id l.toArray true).wp P Q a wn := by
  have h1 := h ⟨⟨w, Below.refl _ _⟩⟩ Lat.cell
  refine wp_region_quiet (C := fun w' => ∃ n : Lat w, w' = n.x) hm hB ⟨⟨wn.drew, h0.drew⟩, rfl⟩ ?_
  have e : (fun a' => ∀ w', (∃ n : Lat w, w' = n.x) → Q .normal a' w') = (fun a' => ∀ w', Below w.heap.size w w' → Q .normal a' w') := by
    funext a'
    exact propext (lat_all w _)
  rw [e]
  simpa using h1

theorem wpQuiet_congr {Q : Act → Prop} {ops' : Array Oper} (hy : ∀ tmps, yielded ops' tmps = yielded ops tmps) : ∀ (l : List Oper) (a : Act), wpQuiet P ops C Q l a → wpQuiet P ops' C Q l a
  | [], _, h => h
  | o :: l, a, h => by
    simp only [wpQuiet, hy] at h ⊢
    split
    · rename_i hw; simp only [hw, if_true] at h
      exact Oper.quiet_mono (fun a' h' => wpQuiet_congr hy l a' h') h
    · rename_i hw; simp only [hw] at h
      exact wpQuiet_congr hy l _ h

theorem wpQuiet_snoc {Q : Act → Prop} {o : Oper} (hg : o.guard = none) (hd : o.dst = none) : ∀ (l : List Oper) (a : Act), wpQuiet P ops C Q l a → wpQuiet P ops C Q (l ++ [blanked o]) a
  | [], a, h => by
    have hw : Region.wanted (blanked o) (yielded ops a.tmps) = true := by simp [Region.wanted, blanked, hg]
    simp only [List.nil_append, wpQuiet, hw, if_true]
    refine ⟨.bool true, fun w _ => ?_, ?_⟩
    · unfold Oper.quietAt
      rw [BigFrame.run_move (.const (.bool true)) rfl]
      exact ⟨rfl, rfl⟩
    · have : a.put (blanked o).dst (.bool true) = a := by simp [blanked, hd, Act.put]
      rw [this]; exact h
  | p :: l, a, h => by
    simp only [List.cons_append, wpQuiet] at h ⊢
    split
    · rename_i hw; simp only [hw, if_true] at h
      exact Oper.quiet_mono (fun a' h' => wpQuiet_snoc hg hd l a' h') h
    · rename_i hw; simp only [hw] at h
      exact wpQuiet_snoc hg hd l _ h

/-- The same where the last operation, a store, waits for all others. -/
theorem wp_region_lat_tail {id : Nat} {Q : Exit → Act → World → Prop} {a : Act} {w wn : World} {l init : List Oper} {o : Oper} (h0 : Below w.heap.size w wn) (hm : P.follows .mixedOrders = true)
    (hi : l.dropLast = init) (ho : l.getLast? = some o) (hB : lastB l o = true)
    (h : Nonempty (Lat w) → (∀ (l : Lat w) (b o : Nat), b < w.heap.size → l.x.cell? ⟨b, o, none⟩ = w.cell? ⟨b, o, none⟩) →
      wpQuiet P l.toArray (fun w' => ∃ n : Lat w, w' = n.x) (fun a' => ∀ w', Below w.heap.size w w' → wpList P l.toArray Q [o] a' w') init a) : (Code.region id l.toArray true).wp P Q a wn := by
  have h1 := h ⟨⟨w, Below.refl _ _⟩⟩ Lat.cell
  have hne : l ≠ [] := by intro e; rw [e] at ho; cases ho
  have hl : l = init ++ [o] := by
    rw [← hi]
    rw [List.getLast?_eq_some_getLast hne] at ho
    rw [← Option.some.inj ho]; exact (List.dropLast_concat_getLast hne).symm
  simp only [lastB, Bool.and_eq_true] at hB
  obtain ⟨⟨⟨⟨hg, hd⟩, hw⟩, hac⟩, hlex⟩ := hB
  have hg' : o.guard = none := by simpa using hg
  have hd' : o.dst = none := by simpa using hd
  have hlen : l.length = init.length + 1 := by rw [hl]; simp
  have hn : l.toArray[init.length]? = some o := by rw [hl]; simp
  have hset : l.toArray.setIfInBounds init.length (blanked o) = (init ++ [blanked o]).toArray := by
    rw [hl]; simp
  have hy : ∀ tmps, yielded (init ++ [blanked o]).toArray tmps = yielded l.toArray tmps := by
    intro tmps; rw [← hset]; exact yielded_blank hn tmps
  rw [hi] at hlex
  simp only [Region.lexB, Bool.and_eq_true] at hlex
  have h2 := wpQuiet_snoc (o := o) hg' hd' init a (wpQuiet_congr hy init a h1)
  have h3 := wpAnyQ_lex (C := fun w' => ∃ n : Lat w, w' = n.x) (md := .any) hlex.1 (init ++ [blanked o]) 0 (Array.replicate (init ++ [blanked o]).toArray.size false) a (by simp) (by simpa using hlex.2) h2
  refine wp_region_any hm ?_
  have hQ : ∀ (a : Act) (w1 : World), (∃ n : Lat w, w1 = n.x) → (∀ w', Below w.heap.size w w' → wpList P l.toArray Q [o] a w') → (o.wp P a w1 (fun a' w' => Q .normal a' w') Q ∨ (o.asks P a w1 ∧ LetsOut Q)) := by
    intro a w1 hC hq
    have := (lat_all w (fun w' => wpList P l.toArray Q [o] a w')).2 hq w1 hC
    have hwa : Region.wanted o (yielded l.toArray a.tmps) = true := by simp [Region.wanted, hg']
    simp only [wpList, hwa, if_true] at this
    exact this
  have h4 := wpAny_of_quiet_last (P := P) (C := fun w' => ∃ n : Lat w, w' = n.x) (md := .any) hn (by simp [hlen]) (by
      intro i hi'
      have := List.all_eq_true.1 hw i (List.mem_range.2 (by omega))
      obtain ⟨e, he, hb⟩ := Array.any_eq_true'.1 this
      simp only [Bool.and_eq_true, beq_iff_eq] at hb
      exact ⟨e, he, hb.1, hb.2⟩) (by
      intro i p hp e he
      have hlt : i < l.length := by have := (Array.getElem?_eq_some_iff.1 hp).1; simpa using this
      have := List.all_eq_true.1 hac i (List.mem_range.2 hlt)
      have hp' : l[i]? = some p := by simpa using hp
      rw [hp'] at this
      simp only [Option.map_some, Option.getD_some] at this
      have := Array.all_eq_true_iff_forall_mem.1 this e he
      simpa using this) hg' hd' hQ l.toArray.size (Array.replicate l.toArray.size false) a { wn with drawn := wn.drawn + 1 } (by simp) (by simp [hlen]) ⟨⟨wn.drew, h0.drew⟩, rfl⟩ (by
      rw [hset]; simpa [hlen] using h3)
  exact h4
end
theorem bcell {W w1 : World} (hb : Below W.heap.size W w1) : (∀ b o, b < W.heap.size → w1.cell? ⟨b, o, none⟩ = W.cell? ⟨b, o, none⟩) ∧ (∀ b o, b < W.heap.size → w1.frozen? ⟨b, o, none⟩ = W.frozen? ⟨b, o, none⟩) :=
  ⟨fun b o h => hb.cell (p := ⟨b, o, none⟩) h, fun b o h => hb.frozen (p := ⟨b, o, none⟩) h⟩
theorem below_later {w w1 w2 : World} (h1 : Below w.heap.size w w1) (h2 : Below w1.heap.size w1 w2) : Below w.heap.size w w2 := h1.trans (h2.mono h1.size)
theorem below_box (w : World) (o : Obj) : Below w.heap.size w (w.alloc o) := (Below.refl _ _).alloc (Nat.le_refl _) _
theorem ret_int {k : IntKind} {a b : Int} (h : a = b) : Ending.returned (.int k a) = .returned (.int k b) := by rw [h]
theorem ret_bool {a b : Bool} (h : a = b) : Ending.returned (.bool a) = .returned (.bool b) := by rw [h]
theorem hid_in {p : Prop} (h : p) : Hid p := h
end Go.LatT

namespace Go.BlockM
open Go.RowKit
def inB (n lo hi : Int) : Bool := decide (lo ≤ n ∧ n ≤ hi)
def pw (n : Int) : Int := 2 ^ n.toNat
/-- The block of so many bits that has an address. -/
def fl (a b : Int) : Int := a / pw (32 - b) * pw (32 - b)
theorem wrap_i64_small (n : Int) (h0 : 0 ≤ n) (h1 : n < 9223372036854775808) : IntKind.i64.wrap n = n := by
  simp [IntKind.wrap, IntKind.bits, IntKind.signed]
  split <;> omega
end Go.BlockM

namespace Go.OpnT
open Go.ChangeShapes Go.WideShapes Go.ChangeAt Go.RowKit Go.Joins Go.LatT
set_option linter.unusedVariables false
/-- A type of which every cell is a number of 64 bits. -/
def intOnly (P : Program) : Nat → TypeId → Bool
  | 0, _ => false
  | n + 1, t => match P.underlying t with
    | some (.int .i64) => P.cellsOf t == 1
    | some (.struct fs) => fs.all (fun f => intOnly P n f.type) && (List.range (P.cellsOf t)).all (fun j => fs.any fun f => decide (f.offset ≤ j) && decide (j < f.offset + P.cellsOf f.type))
    | _ => false
section
variable {H : Type} {enc : TypeId × Value → H} {P : Program} {w : World} {base : Nat} {spare : Nat → Bool} {held : Bool}
theorem intOnly_cells : ∀ (n : Nat) (t : TypeId) (fuel : Nat) (cs : List Value) (x : DataW H × List MemPlace), intOnly P n t = true → DataW.trod enc P w base spare held fuel t cs = some x →
    cs.length = P.cellsOf t ∧ ∀ j, j < cs.length → ∃ z, cs[j]? = some (.int .i64 z) ∧ (Lit.int .i64 z).wf = true
  | 0, t, fuel, cs, x, h, _ => by simp [intOnly] at h
  | n + 1, t, fuel, cs, x, h, ht => by
    unfold intOnly at h
    split at h
    · rename_i hu
      obtain ⟨z, rfl, _, hz⟩ := DataW.trod_int hu ht
      have h1 : P.cellsOf t = 1 := by simpa using h
      refine ⟨by simp [h1], fun j hj => ?_⟩
      have : j = 0 := by simpa using hj
      subst this
      exact ⟨z, rfl, hz⟩
    · rename_i fs hu
      obtain ⟨xs, m, _, _, hl, hlen, hf⟩ := DataW.trod_struct hu ht
      simp only [Bool.and_eq_true] at h
      obtain ⟨h1, h2⟩ := h
      refine ⟨hl, fun j hj => ?_⟩
      have h3 := List.all_eq_true.1 h2 j (List.mem_range.2 (by omega))
      obtain ⟨f, hfm, hr⟩ := Array.any_eq_true'.1 h3
      simp only [Bool.and_eq_true, decide_eq_true_eq] at hr
      obtain ⟨i, hi, rfl⟩ := Array.mem_iff_getElem.1 hfm
      have h4 := hf i fs[i] (by simp [hi])
      have hxi : i < xs.length := by omega
      rw [List.getElem?_eq_getElem hxi] at h4
      have h5 : intOnly P n fs[i].type = true := by
        have := Array.all_eq_true_iff_forall_mem.1 h1 fs[i] (Array.getElem_mem hi)
        exact this
      obtain ⟨h6, h7⟩ := intOnly_cells n _ _ _ _ h5 h4
      have h8 : j - fs[i].offset < ((cs.drop fs[i].offset).take (P.cellsOf fs[i].type)).length := by rw [h6]; omega
      obtain ⟨z, hz, hw⟩ := h7 (j - fs[i].offset) h8
      refine ⟨z, ?_, hw⟩
      rw [List.getElem?_take_of_lt (by omega), List.getElem?_drop, show fs[i].offset + (j - fs[i].offset) = j by omega] at hz
      exact hz
    · simp at h
/-- The cells as one function. -/
theorem ints_fn {cs : List Value} {k : Nat} (hl : cs.length = k) (h : ∀ j, j < cs.length → ∃ z, cs[j]? = some (.int .i64 z) ∧ (Lit.int .i64 z).wf = true) :
    ∃ E : Nat → Int, cs = (List.range k).map (fun j => Value.int .i64 (E j)) ∧ ∀ j, (Lit.int .i64 (E j)).wf = true := by
  obtain ⟨E, hE⟩ := Deep.choose_lt (α := Int) (p := fun j z => cs[j]? = some (.int .i64 z) ∧ (Lit.int .i64 z).wf = true) h
  refine ⟨fun j => if j < cs.length then E j else 0, ?_, fun j => ?_⟩
  · apply List.ext_getElem?
    intro j
    by_cases hj : j < cs.length
    · rw [(hE j hj).1]
      simp [← hl, hj]
    · simp [← hl, hj]
  · by_cases hj : j < cs.length
    · simp only [hj, if_true]; exact (hE j hj).2
    · simp only [hj, if_false]; decide
theorem open_ints_struct {r : Reach} {b0 : Nat} {t : TypeId} {fs : Array Field} {v : Value} {d : DataW H} {p : List MemPlace} (n k : Nat) (hs : P.underlying t = some (.struct fs)) (hi : intOnly P n t = true) (hC : P.cellsOf t = k)
    (hv : Value.okWide P w r b0 t v) (h : DataW.Trod enc P w base spare held t v d p) :
    ∃ E : Nat → Int, v = .agg ((List.range k).map fun j => Value.int .i64 (E j)).toArray ∧ ∀ j, (Lit.int .i64 (E j)).wf = true := by
  obtain ⟨cs, rfl, hsz⟩ := okWide_struct hs hv
  obtain ⟨fuel, hf⟩ := h
  obtain ⟨h1, h2⟩ := intOnly_cells n t fuel _ _ hi hf
  obtain ⟨E, hE, hw⟩ := ints_fn (h1.trans hC) h2
  refine ⟨E, ?_, hw⟩
  have : cs.toList = (List.range k).map fun j => Value.int .i64 (E j) := by simpa [Value.cells] using hE
  rw [← this]
end
/-- A slice of structs of k numbers: empty, or a table of cells. -/
def Tab (w : World) (a : Option Addr) (len k : Nat) (E : Nat → Nat → Int) : Prop :=
  len = 0 ∨ ∃ bb off, a = some ⟨bb, off, none⟩ ∧ bb < w.heap.size ∧ ∀ i, i < len → ∀ j, j < k → w.cell? ⟨bb, off + i * k + j, none⟩ = some (.int .i64 (E i j))
theorem Tab.later {w w' : World} {a : Option Addr} {len k : Nat} {E : Nat → Nat → Int} (h : Tab w a len k E) (hb : Below w.heap.size w w') : Tab w' a len k E := by
  rcases h with h | ⟨bb, off, e, hlt, hc⟩
  · exact .inl h
  · exact .inr ⟨bb, off, e, Nat.lt_of_lt_of_le hlt hb.size, fun i hi j hj => by rw [(bcell hb).1 _ _ hlt]; exact hc i hi j hj⟩
/-- What the kit tells of such a slice. -/
theorem open_tab {H : Type} {enc : TypeId × Value → H} {P : Program} {w : World} {base : Nat} {spare : Nat → Bool} {held : Bool} {t e : TypeId} {fuel : Nat} {a : Option Addr} {len cap : Nat} {x : DataW H × List MemPlace} (n k : Nat)
    (ht : P.underlying t = some (.slice e)) (hi : intOnly P n e = true) (hC : P.cellsOf e = k) (hk : 0 < k) (h : DataW.trod enc P w base spare held fuel t [.slice a len cap] = some x) :
    ∃ E : Nat → Nat → Int, Tab w a len k E ∧ (∀ i j, (Lit.int .i64 (E i j)).wf = true) ∧ len ≤ cap ∧ cap ≤ maxLen := by
  rcases Deep.open_slice ht h with ⟨h0, _⟩ | ⟨b, l, c, m, f, D, Pl, h0, hb, hl, hm, hmm, _, hx⟩
  · simp at h0
    obtain ⟨rfl, rfl, rfl⟩ := h0
    exact ⟨fun _ _ => 0, .inl rfl, fun _ _ => (by decide : (Lit.int .i64 0).wf = true), Nat.le_refl _, Nat.zero_le _⟩
  · simp at h0
    obtain ⟨rfl, rfl, rfl⟩ := h0
    have hlm : len ≤ m := by rw [hmm]; split <;> omega
    have hx2 : ∀ i, i < len → ∃ E : Nat → Int, (∀ j, j < k → w.cell? (b.add (i * k + j)) = some (.int .i64 (E j))) ∧ ∀ j, (Lit.int .i64 (E j)).wf = true := by
      intro i hi'
      obtain ⟨cs, h1, h2⟩ := hx i (by omega)
      obtain ⟨h3, h4⟩ := intOnly_cells n e f cs _ hi h2
      obtain ⟨E, hE, hw⟩ := ints_fn (h3.trans hC) h4
      obtain ⟨_, h5, h6⟩ := World.cells?_some h1
      refine ⟨E, fun j hj => ?_, hw⟩
      rw [hC] at h6
      have := h6 j hj
      rw [Deep.add_add, hE] at this
      rw [this]
      simp [hj]
    by_cases h0 : len = 0
    · exact ⟨fun _ _ => 0, .inl h0, fun _ _ => (by decide : (Lit.int .i64 0).wf = true), hl, hm⟩
    · have hx3 : ∀ i, i < len → ∃ E : Nat → Int, (∀ j, j < k → w.cell? (b.add (i * k + j)) = some (.int .i64 (E j))) ∧ ∀ j, (Lit.int .i64 (E j)).wf = true := hx2
      obtain ⟨F, hF⟩ := Deep.choose_lt (α := Nat → Int) hx3
      obtain ⟨bb, off, spot⟩ := b
      have hc := (hF 0 (by omega)).1 0 hk
      have hspot : spot = none := by simpa [Addr.add] using World.cell?_spot hc
      subst hspot
      have hcell : ∀ i, i < len → ∀ j, j < k → w.cell? ⟨bb, off + i * k + j, none⟩ = some (.int .i64 (F i j)) := by
        intro i hi' j hj
        have := (hF i hi').1 j hj
        by_cases hz : i * k + j = 0
        · rw [hz] at this
          rw [show off + i * k + j = off by omega]
          simpa [Addr.add] using this
        · rw [show off + i * k + j = off + (i * k + j) by omega]
          unfold Addr.add at this
          rw [if_neg hz] at this
          exact this
      have hlt : bb < w.heap.size := by
        have := hcell 0 (by omega) 0 hk
        unfold World.cell? at this
        rcases Nat.lt_or_ge bb w.heap.size with h' | h'
        · exact h'
        · simp [Array.getElem?_eq_none h'] at this
      refine ⟨fun i => if i < len then F i else fun _ => 0, .inr ⟨bb, off, rfl, hlt, fun i hi' j hj => ?_⟩, fun i j => ?_, hl, hm⟩
      · simp only [hi', if_true]; exact hcell i hi' j hj
      · by_cases hi' : i < len
        · simp only [hi', if_true]; exact (hF i hi').2 j
        · simp only [hi', if_false]; decide
end Go.OpnT

namespace Go.OpnT
open Go.LatT Go.RowKit
set_option linter.unusedVariables false
theorem owns_below {w w' : World} {base size n : Nat} {e : TypeId} {v : Value} {xs : List Value} (h : w.ownsRow base e size v n xs) (hb : Below w.heap.size w w') : w'.ownsRow base e size v n xs := by
  obtain ⟨h1, h2⟩ := h
  refine ⟨h1, ?_⟩
  rcases h2 with h2 | ⟨g, cap, cur, e1, e2, e3, e4, e5, e6, e7⟩
  · exact .inl h2
  · exact .inr ⟨g, cap, cur, e1, e2, by rw [hb.block _ (Array.getElem?_eq_some_iff.1 e3).1]; exact e3, e4, e5, e6, e7⟩
theorem owns_drew {w : World} {base size n : Nat} {e : TypeId} {v : Value} {xs : List Value} (h : w.ownsRow base e size v n xs) : w.drew.ownsRow base e size v n xs := h
/-- Behind an append: all that lay below B, and every block but the row's own, is as it was. -/
theorem grown_below {w w' : World} {B : Nat} {row : Option Nat} (hg : w.grownBy w' row) (hB : B ≤ w.heap.size) (hr : ∀ k, row = some k → B ≤ k) : Below B w w' :=
  (Below.refl B w).grown hg hB hr
theorem owns_own {w : World} {base size n : Nat} {e : TypeId} {v : Value} {xs : List Value} (h : w.ownsRow base e size v n xs) : ∀ k, v.ownBlock = some k → base ≤ k ∧ k < w.heap.size := World.ownsRow.lt h
theorem cells_new (w : World) (vs : List Value) (t : TypeId) : ∀ (j : Nat) (u : Value), vs[j]? = some u → (w.alloc (.cells vs.toArray t)).cell? ((⟨w.heap.size, 0, none⟩ : Addr).add j) = some u := by
  intro j u h
  have hb : (w.alloc (.cells vs.toArray t)).heap[w.heap.size]? = some (.cells vs.toArray t) := Go.Deep.blk_alloc_new _ _
  have : ((⟨w.heap.size, 0, none⟩ : Addr).add j) = ⟨w.heap.size, j, none⟩ := by
    unfold Addr.add
    by_cases hj : j = 0
    · rw [if_pos hj, hj]
    · rw [if_neg hj, Nat.zero_add]
  rw [this]
  unfold World.cell?
  rw [hb]
  simpa using h
end Go.OpnT

namespace Go.ApdG
open Go.RowKit Go.LatT Go.OpnT
set_option linter.unusedVariables false
set_option linter.unusedSimpArgs false
/-- A slice type T of elements e of k cells. -/
structure ElemT (P : Program) (T e : TypeId) (k : Nat) (z : Value) : Prop where
  under : P.underlying T = some (.slice e)
  info : ∃ i b, P.info? e = some i ∧ i.zero = some z ∧ i.size = k ∧ i.bytes = b ∧ b ≤ 4096
  zsz : z.cells.size = k
  pos : 0 < k
theorem ElemT.mk' {P : Program} {T e : TypeId} {k b : Nat} {z : Value} (h1 : P.underlying T = some (.slice e)) (h2 : (P.info? e).map (fun i => (i.zero, i.size, i.bytes)) = some (some z, k, b)) (hz : z.cells.size = k) (hk : 0 < k) (hb : b ≤ 4096) : ElemT P T e k z := by
  obtain ⟨i0, hi, hzz⟩ := Option.map_eq_some_iff.1 h2
  simp only [Prod.mk.injEq] at hzz
  exact ⟨h1, ⟨i0, b, hi, hzz.1, hzz.2.1, hzz.2.2, hb⟩, hz, hk⟩
section
variable {P : Program} {T e : TypeId} {k : Nat} {z : Value}
theorem wpG1 {o : Oper} {a : Act} {K : Act → World → Prop} {Q : Exit → Act → World → Prop} {w : World} (E : ElemT P T e k z) (s x : Operand)
    (ho : o.op = .call { callee := .builtin .append, args := #[s, x], argTypes := #[T, T] })
    (base : Nat) (v : Value) (n : Nat) (xs : List Value) (hs : a.eval s = v) (hown : w.ownsRow base e k v n xs) (ad : Addr) (m c : Nat) (news : List Value) (hx : a.eval x = .slice (some ad) m c)
    (hl : news.length = m * k) (hnews : ∀ j u, news[j]? = some u → w.cell? (ad.add j) = some u) (h1 : ∀ u ∈ news, u.oneCell' = true) (hlen : n + m ≤ 4000000) (hbase : base ≤ w.heap.size)
    (h : ∀ v' w', w'.ownsRow base e k v' (n + m) (xs ++ news) → w.grownBy w' v.ownBlock → (v' = .slice none 0 0 ↔ v = .slice none 0 0 ∧ m = 0) → K (a.put o.dst v') w') : o.wp P a w K Q := by
  obtain ⟨i, b, hi, hz, hsz, hb, hb'⟩ := E.info
  refine wp_append_own w s x T ho base e i z k b E.under hi hz hsz hb E.zsz E.pos v n xs hs hown ad m c news hx hl hnews h1 (by unfold maxLen; omega) ?_ hbase h
  exact Nat.le_trans (Nat.mul_le_mul hlen hb') (by omega)
theorem wpG {ops : Array Oper} {rest : List Oper} {o : Oper} {a : Act} {Q : Exit → Act → World → Prop} {w : World} (E : ElemT P T e k z) (hgd : o.guard = none) (s x : Operand)
    (ho : o.op = .call { callee := .builtin .append, args := #[s, x], argTypes := #[T, T] })
    (base : Nat) (v : Value) (n : Nat) (xs : List Value) (hs : a.eval s = v) (hown : w.ownsRow base e k v n xs) (ad : Addr) (m c : Nat) (news : List Value) (hx : a.eval x = .slice (some ad) m c)
    (hl : news.length = m * k) (hnews : ∀ j u, news[j]? = some u → w.cell? (ad.add j) = some u) (h1 : ∀ u ∈ news, u.oneCell' = true) (hlen : n + m ≤ 4000000) (hbase : base ≤ w.heap.size)
    (h : ∀ v' w', w'.ownsRow base e k v' (n + m) (xs ++ news) → w.grownBy w' v.ownBlock → (v' = .slice none 0 0 ↔ v = .slice none 0 0 ∧ m = 0) → wpList P ops Q rest (a.put o.dst v') w') : wpList P ops Q (o :: rest) a w :=
  wpList_plain hgd fun _ hK => wpG1 E s x ho base v n xs hs hown ad m c news hx hl hnews h1 hlen hbase fun v' w' h2 h3 h4 => hK _ _ (h v' w' h2 h3 h4)
theorem stepG {ops : Array Oper} {o : Oper} {a : Act} {K : Act → World → Prop} {Q : Exit → Act → World → Prop} {F : Prop} {w : World} (E : ElemT P T e k z) (hgd : o.guard = none) (s x : Operand)
    (ho : o.op = .call { callee := .builtin .append, args := #[s, x], argTypes := #[T, T] })
    (base : Nat) (v : Value) (n : Nat) (xs : List Value) (hs : a.eval s = v) (hown : w.ownsRow base e k v n xs) (ad : Addr) (m c : Nat) (news : List Value) (hx : a.eval x = .slice (some ad) m c)
    (hl : news.length = m * k) (hnews : ∀ j u, news[j]? = some u → w.cell? (ad.add j) = some u) (h1 : ∀ u ∈ news, u.oneCell' = true) (hlen : n + m ≤ 4000000) (hbase : base ≤ w.heap.size)
    (h : ∀ v' w', w'.ownsRow base e k v' (n + m) (xs ++ news) → w.grownBy w' v.ownBlock → (v' = .slice none 0 0 ↔ v = .slice none 0 0 ∧ m = 0) → K (a.put o.dst v') w') :
    if Region.wanted o (yielded ops a.tmps) = true then Oper.wp P o a w K Q else F := by
  have hw : Region.wanted o (yielded ops a.tmps) = true := by simp [Region.wanted, hgd]
  rw [if_pos hw]
  exact wpG1 E s x ho base v n xs hs hown ad m c news hx hl hnews h1 hlen hbase h
/-- make of a slice of one-cell elements, full. -/
theorem make1 (E : ElemT P T e 1 z) (n : Nat) (hn : n ≤ 1000000) (W : World) (hz : z.cells = #[z]) :
    (Instr.makeSlice T (.int .i64 (n : Int)) (.int .i64 (n : Int))).run P W = .ok (.slice (some ⟨W.heap.size, 0, none⟩) n n) (W.alloc (.cells (Array.replicate n z) e)) := by
  obtain ⟨i, b, hi, hz', hsz, hb, hb'⟩ := E.info
  have hbb : (b : Int) * (n : Int) ≤ 281474976710656 := by
    have h : b * n ≤ 4096 * 1000000 := Nat.mul_le_mul hb' hn
    have h2 : ((b * n : Nat) : Int) ≤ ((4096 * 1000000 : Nat) : Int) := by exact_mod_cast h
    rw [Int.natCast_mul] at h2
    omega
  have hr := run_make (P := P) W T e i z E.under hi hz' .i64 .i64 n n (by omega) (Int.le_refl _) (by rw [hb]; exact hbb) (by omega)
  simp only [Int.toNat_natCast, hsz, Nat.mul_one] at hr
  have e1 : madeCells z.cells n = Array.replicate n z := by
    apply Array.ext
    · simp [size_madeCells]
    · intro i h1 h2
      simp [madeCells, hz, Nat.mod_one]
  rw [e1] at hr
  exact hr
end
end Go.ApdG

namespace Go.ApdG
open Go.RowKit Go.LatT Go.OpnT
set_option linter.unusedVariables false
set_option linter.unusedSimpArgs false
section
variable {P : Program} {T e : TypeId} {k : Nat} {z : Value}
/-- What is known behind an append, the old row lying in block g. -/
structure Grew (w w' : World) (base : Nat) (e : TypeId) (k g n m : Nat) (v' : Value) (xs news : List Value) : Prop where
  own : w'.ownsRow base e k v' (n + m) (xs ++ news)
  by_ : w.grownBy w' (some g)
  old : ∀ j u, xs[j]? = some u → w'.cell? ((⟨g, 0, none⟩ : Addr).add j) = some u
  blk : v'.ownBlock = some g ∨ v'.ownBlock = some w.heap.size
theorem run_grew (w : World) (E : ElemT P T e k z) (ty : TypeId) (base g n cap : Nat) (xs : List Value) (hown : w.ownsRow base e k (.slice (some ⟨g, 0, none⟩) n cap) n xs)
    (ad : Addr) (m c : Nat) (news : List Value) (hl : news.length = m * k) (hnews : ∀ j u, news[j]? = some u → w.cell? (ad.add j) = some u) (h1 : ∀ u ∈ news, u.oneCell' = true) (hlen : n + m ≤ 4000000) (hbase : base ≤ w.heap.size) :
    ∃ v' w', (Builtin.append_ #[T, T] ty #[.slice (some ⟨g, 0, none⟩) n cap, .slice (some ad) m c]).run P w = .ok v' w' ∧ Grew w w' base e k g n m v' xs news := by
  obtain ⟨i, b, hi, hz, hsz, hb, hb'⟩ := E.info
  have hbytes : (n + m) * i.bytes ≤ 140737488355328 := by rw [hb]; exact Nat.le_trans (Nat.mul_le_mul hlen hb') (by omega)
  obtain ⟨v', w', hr, ho, hg, _⟩ := run_append_own (P := P) w base T ty e i z k i.bytes E.under hi hz hsz rfl E.zsz E.pos _ n xs hown ad m c news hl hnews h1 (by unfold maxLen; omega) hbytes hbase
  have holds : ∀ j u, xs[j]? = some u → w.cell? ((⟨g, 0, none⟩ : Addr).add j) = some u := hown.cells (g := g) rfl
  refine ⟨v', w', hr, ho, hg, ?_, ?_⟩
  all_goals
    obtain ⟨hxl, h2⟩ := hown
    rcases h2 with ⟨h2, _⟩ | ⟨g', cap', cur, h', hbg, hgg, hnc, hcm, hcs, htake⟩
    · simp at h2
    simp only [Value.slice.injEq, Option.some.injEq, Addr.mk.injEq, and_true, true_and] at h'
    obtain ⟨rfl, rfl⟩ := h'
    by_cases hroom : n + m ≤ cap
    · have hfit : n * i.size + news.length ≤ cur.size := by rw [hl, hcs, hsz, ← Nat.add_mul]; exact Nat.mul_le_mul_right _ hroom
      have hr2 := run_append_room (P := P) w T ty e i E.under hi g n cap cur hgg ad m c news (by rw [hsz]; exact hl) hnews h1 hroom hfit
      rw [hr] at hr2
      injection hr2 with e1 e2
      subst e1 e2
      first
      | exact .inl rfl
      | intro j u hj
        have hjx : j < xs.length := (List.getElem?_eq_some_iff.1 hj).1
        have hcell : (⟨g, 0, none⟩ : Addr).add j = ⟨g, j, none⟩ := by
          unfold Addr.add
          by_cases h0 : j = 0
          · rw [if_pos h0, h0]
          · rw [if_neg h0, Nat.zero_add]
        rw [hcell, cell_of_row _ g j _ _ _ (setRow_heap w g cur _ e _ hgg)]
        rw [hsz, htake]
        simp only [List.getElem?_toArray, List.append_assoc]
        rw [List.getElem?_append_left hjx]
        exact hj
    · have hr2 := run_append_grow (P := P) w T ty e i z E.under hi hz ⟨g, 0, none⟩ n cap xs (by rw [hsz]; exact hxl) holds ad m c news (by rw [hsz]; exact hl) hnews (by omega) (by omega) (growslice_fits (by omega) hbytes)
      rw [hr] at hr2
      injection hr2 with e1 e2
      subst e1 e2
      first
      | exact .inr rfl
      | intro j u hj
        have hgl : g < w.heap.size := (Array.getElem?_eq_some_iff.1 hgg).1
        refine (World.cell?_of_block ?_).trans (holds j u hj)
        have hbk : ((⟨g, 0, none⟩ : Addr).add j).block = g := by unfold Addr.add; split <;> rfl
        rw [hbk]
        first | exact heap_alloc_old w.drew _ hgl | exact heap_alloc_old w.drew _ g hgl
theorem wpK1 {o : Oper} {a : Act} {K : Act → World → Prop} {Q : Exit → Act → World → Prop} {w : World} (E : ElemT P T e k z) (s x : Operand)
    (ho : o.op = .call { callee := .builtin .append, args := #[s, x], argTypes := #[T, T] })
    (base g n cap : Nat) (xs : List Value) (hs : a.eval s = .slice (some ⟨g, 0, none⟩) n cap) (hown : w.ownsRow base e k (.slice (some ⟨g, 0, none⟩) n cap) n xs) (ad : Addr) (m c : Nat) (news : List Value) (hx : a.eval x = .slice (some ad) m c)
    (hl : news.length = m * k) (hnews : ∀ j u, news[j]? = some u → w.cell? (ad.add j) = some u) (h1 : ∀ u ∈ news, u.oneCell' = true) (hlen : n + m ≤ 4000000) (hbase : base ≤ w.heap.size)
    (h : ∀ v' w', Grew w w' base e k g n m v' xs news → K (a.put o.dst v') w') : o.wp P a w K Q := by
  obtain ⟨v', w', hr, h2⟩ := run_grew (P := P) w E o.type base g n cap xs hown ad m c news hl hnews h1 hlen hbase
  unfold Oper.wp execOp
  simp only [ho, resolve, invoke, builtin, Sem.run_bind, Sem.run_pure, Result.andThen_ok, List.map_toArray, List.map_cons, List.map_nil, hs, hx, hr]
  exact h v' w' h2
end
end Go.ApdG

namespace Go.BytM
set_option linter.unusedVariables false
/-- A number in k bytes, the highest first. -/
def be : Nat → Nat → List UInt8
  | 0, _ => []
  | k + 1, n => be k (n / 256) ++ [UInt8.ofNat n]
theorem be_len : ∀ k n, (be k n).length = k
  | 0, _ => rfl
  | k + 1, n => by rw [be, List.length_append, be_len k]; rfl
theorem be_cons : ∀ k n, be (k + 1) n = UInt8.ofNat (n / 256 ^ k) :: be k n
  | 0, n => by simp [be]
  | k + 1, n => by
    rw [be, be_cons k (n / 256), be]
    simp [Nat.div_div_eq_div_mul, Nat.pow_succ, Nat.mul_comm]
/-- The number of bytes. -/
def num (l : List UInt8) : Nat := l.foldl (fun n b => n * 256 + b.toNat) 0
theorem num_snoc (l : List UInt8) (b : UInt8) : num (l ++ [b]) = num l * 256 + b.toNat := by simp [num]
theorem snoc_cases (l : List UInt8) : l = [] ∨ ∃ m b, l = m ++ [b] := by
  rcases List.eq_nil_or_concat l with h | ⟨m, b, h⟩
  · exact .inl h
  · exact .inr ⟨m, b, by simpa using h⟩
theorem num_lt : ∀ (k : Nat) (l : List UInt8), l.length = k → num l < 256 ^ k
  | 0, l, h => by have := List.length_eq_zero_iff.1 h; subst this; simp [num]
  | k + 1, l, h => by
    rcases snoc_cases l with rfl | ⟨m, b, rfl⟩
    · simp at h
    · have h1 := num_lt k m (by simpa using h)
      have h2 : b.toNat < 256 := b.toNat_lt
      rw [num_snoc, Nat.pow_succ]; omega
/-- The bytes of a text. -/
def bl (s : ByteArray) : List UInt8 := s.data.toList
theorem bl_len (s : ByteArray) : (bl s).length = s.size := s.data.length_toList
theorem of_bl (s : ByteArray) : (⟨(bl s).toArray⟩ : ByteArray) = s := by simp [bl]
theorem bl_of (l : List UInt8) : bl ⟨l.toArray⟩ = l := by simp [bl]
theorem bl_inj {s t : ByteArray} (h : bl s = bl t) : s = t := by rw [← of_bl s, ← of_bl t, h]
theorem bl_append (s t : ByteArray) : bl (s ++ t) = bl s ++ bl t := by simp [bl, ByteArray.data_append]
end Go.BytM

namespace Go.AesM
open Go.RowKit
set_option linter.unusedVariables false
/-- A byte times two. -/
def xt (a : Nat) : Nat := if 255 < a * 2 then a * 2 ^^^ 283 else a * 2
/-- What is left of taking times. -/
def mulF : Nat → Nat → Nat → Nat → Nat
  | 0, _, _, o => o
  | f + 1, a, b, o => if b = 0 then o else mulF f (xt a) (b / 2) (if b % 2 = 1 then o ^^^ a else o)
/-- Two bytes taken times each other. -/
def mul (a b : Nat) : Nat := mulF 8 a b 0
theorem xt_lt (a : Nat) (h : a < 256) : xt a < 256 := by
  have : ∀ a : Fin 256, xt a.1 < 256 := by decide +kernel
  exact this ⟨a, h⟩
theorem xor_lt {a b : Nat} (ha : a < 256) (hb : b < 256) : a ^^^ b < 256 := Nat.xor_lt_two_pow (n := 8) ha hb
theorem mulF_lt : ∀ f a b o, a < 256 → o < 256 → mulF f a b o < 256
  | 0, _, _, _, _, ho => ho
  | f + 1, a, b, o, ha, ho => by
    unfold mulF
    split
    · exact ho
    · refine mulF_lt f _ _ _ (xt_lt a ha) ?_
      split
      · exact xor_lt ho ha
      · exact ho
theorem mul_lt {a b : Nat} (ha : a < 256) : mul a b < 256 := mulF_lt 8 a b 0 ha (by decide)
/-- n bytes as cells. -/
def rC (n : Nat) (f : Nat → Nat) : Array Value := ((List.range n).map fun i => Value.int .u8 (f i : Int)).toArray
theorem rC_size (n : Nat) (f : Nat → Nat) : (rC n f).size = n := by simp [rC]
theorem rC_get (n : Nat) (f : Nat → Nat) (i : Nat) (h : i < n) : (rC n f)[i]? = some (.int .u8 (f i : Int)) := by simp [rC, h]
theorem rC_congr {n : Nat} {f g : Nat → Nat} (h : ∀ i, i < n → f i = g i) : rC n f = rC n g := by
  unfold rC
  congr 1
  apply List.map_congr_left
  intro i hi
  rw [h i (List.mem_range.1 hi)]
theorem rC_set (n : Nat) (f : Nat → Nat) (k b : Nat) : (rC n f).setIfInBounds k (.int .u8 (b : Int)) = rC n (fun i => if i = k then b else f i) := by
  apply Array.ext
  · simp [rC]
  · intro i h1 h2
    by_cases h : k = i
    · subst h; simp [rC]
    · have : ¬ i = k := fun e => h e.symm
      rw [Array.getElem_setIfInBounds_ne (by simpa [rC] using h1) h]
      simp [rC, this]
theorem rC_one (n : Nat) (f : Nat → Nat) : (rC n f).all (·.oneCell') = true := by
  rw [Array.all_eq_true_iff_forall_mem]
  intro x hx
  simp [rC] at hx
  obtain ⟨i, _, rfl⟩ := hx
  rfl
/-- Bytes that lie in a block of their own. -/
def RB (w : World) (g n : Nat) (t : TypeId) (f : Nat → Nat) : Prop := w.heap[g]? = some (.cells (rC n f) t (0, 0))
section
variable {w w' : World} {g n : Nat} {t : TypeId} {f f' : Nat → Nat}
theorem RB.lt (h : RB w g n t f) : g < w.heap.size := (Array.getElem?_eq_some_iff.1 h).1
theorem RB.cell (h : RB w g n t f) (i : Nat) (hi : i < n) : w.cell? ⟨g, i, none⟩ = some (.int .u8 (f i : Int)) := by
  rw [cell_of_row w g i _ _ _ h, rC_get n f i hi]
theorem RB.frozen (h : RB w g n t f) (i : Nat) : w.frozen? ⟨g, i, none⟩ = false := frozen_of_row w g i _ _ h
theorem RB.set (h : RB w g n t f) (k b : Nat) : RB (w.setCell ⟨g, k, none⟩ (.int .u8 (b : Int))) g n t (fun i => if i = k then b else f i) := by
  unfold RB
  rw [heap_setCell_same w g k _ t _ h, rC_set]
theorem RB.other (h : RB w g n t f) (b o : Nat) (v : Value) (hb : b ≠ g) : RB (w.setCell ⟨b, o, none⟩ v) g n t f := by
  unfold RB
  rw [heap_setCell_other w ⟨b, o, none⟩ g v (Ne.symm hb)]; exact h
theorem RB.congr (h : RB w g n t f) (e : ∀ i, i < n → f i = f' i) : RB w g n t f' := by
  unfold RB; rw [← rC_congr e]; exact h
end
theorem RB.new (w : World) (n : Nat) (t : TypeId) (f : Nat → Nat) : RB (w.alloc (.cells (rC n f) t)) w.heap.size n t f := heap_alloc_new w _
end Go.AesM

namespace Go.RowQ
open Go.RowKit Go.LatT
set_option linter.unusedVariables false
section
variable {P : Program}
/-- A type whose values have many cells. -/
structure AggT (P : Program) (ty : TypeId) (n : Nat) : Prop where
  agg : ∀ w, (isAgg ty).run P w = .ok true w
  size : ∀ w, (sizeOf ty).run P w = .ok n w
theorem run_load_at {ty : TypeId} {n : Nat} (h : AggT P ty n) (w : World) (ad : Addr) (cs : Array Value) (hn : cs.size = n) (hc : ∀ j, j < n → w.cell? (ad.add j) = cs[j]?) : (loadVar ty ad).run P w = .ok (.agg cs) w := by
  have hl : (loadCells ad cs.toList.length).run P w = .ok cs.toList.toArray w :=
    run_loadCells_list (P := P) w ad cs.toList (fun j v hv => by
      have hj : j < n := by
        have := (List.getElem?_eq_some_iff.1 hv).1
        rw [Array.length_toList] at this; omega
      rw [hc j hj]; simpa using hv)
  simp only [Array.length_toList, Array.toArray_toList, hn] at hl
  simp [loadVar, Sem.run_bind, h.agg, h.size, hl]
theorem wp_load_at {o : Oper} {a : Act} {w : World} {K : Act → World → Prop} {Q : Exit → Act → World → Prop} {ty : TypeId} {n : Nat} (h : AggT P ty n) (x : Operand) (ho : o.op = .load ty x)
    (ad : Addr) (hx : a.eval x = .pointer (some ad)) (cs : Array Value) (hn : cs.size = n) (hc : ∀ j, j < n → w.cell? (ad.add j) = cs[j]?)
    (hk : K (a.put o.dst (.agg cs)) w) : o.wp P a w K Q := by
  unfold Oper.wp execOp
  simp only [ho, hx, Instr.loadAt, Instr.sureAddr, Sem.run_bind, Sem.run_pure, Result.andThen_ok, run_load_at h w ad cs hn hc]
  exact hk
theorem wpList_load_at {ops : Array Oper} {rest : List Oper} {o : Oper} {a : Act} {w : World} {Q : Exit → Act → World → Prop} {ty : TypeId} {n : Nat} (h : AggT P ty n) (hgd : o.guard = none) (x : Operand) (ho : o.op = .load ty x)
    (ad : Addr) (hx : a.eval x = .pointer (some ad)) (cs : Array Value) (hn : cs.size = n) (hc : ∀ j, j < n → w.cell? (ad.add j) = cs[j]?)
    (hk : wpList P ops Q rest (a.put o.dst (.agg cs)) w) : wpList P ops Q (o :: rest) a w :=
  wpList_plain hgd fun _ hK => wp_load_at h x ho ad hx cs hn hc (hK _ _ hk)
/-- The same in a region that draws, walked once. -/
theorem quiet_load_at {ops : Array Oper} {rest : List Oper} {o : Oper} {a : Act} {C : World → Prop} {Q : Act → Prop} {ty : TypeId} {n : Nat} (h : AggT P ty n) (hgd : o.guard = none) (x : Operand) (ho : o.op = .load ty x)
    (ad : Addr) (hx : a.eval x = .pointer (some ad)) (cs : Array Value) (hn : cs.size = n) (hc : ∀ w, C w → ∀ j, j < n → w.cell? (ad.add j) = cs[j]?)
    (hk : wpQuiet P ops C Q rest (a.put o.dst (.agg cs))) : wpQuiet P ops C Q (o :: rest) a := by
  have hw : Region.wanted o (yielded ops a.tmps) = true := by simp [Region.wanted, hgd]
  simp only [wpQuiet, hw, if_true]
  refine ⟨.agg cs, fun w hC => ?_, hk⟩
  unfold Oper.quietAt execOp
  simp only [ho, hx, Instr.loadAt, Instr.sureAddr, Sem.run_bind, Sem.run_pure, Result.andThen_ok, run_load_at h w ad cs hn (hc w hC)]
  exact ⟨rfl, rfl⟩
end
end Go.RowQ

namespace Go.RegE
open Go.RowKit Go.LatT
section
variable {P : Program} {ops : Array Oper} {md : Region.Mode} {C : Nat → World → Prop} {H N : Nat} {Post : FuncId → Array Value → Value → Prop} {own : Oper → Option Nat} {Sh : Obj → Prop}

/-- Blocks from H on are as they were. -/
def Keep (H : Nat) (w w' : World) : Prop := ∀ g, H ≤ g → g < w.heap.size → w'.heap[g]? = w.heap[g]?
/-- A block, laid anew in its place. -/
def wput (w : World) (g : Nat) (ob : Obj) : World := { w with heap := w.heap.setIfInBounds g ob }
theorem wput_size (w : World) (g : Nat) (ob : Obj) : (wput w g ob).heap.size = w.heap.size := by simp [wput]
section
variable {T : List (Nat × Obj) → Act → Prop} {o : Oper} {rest : List Oper} {gs : List (Nat × Obj)} {a : Act}
end

/-- The class where below B all is as it was, some blocks are known, and some are owned pairs of cells. -/
structure Cls (w0 : World) (B : Nat) (known : List (Nat × Obj)) (rs : List Nat) (t : TypeId) (_n : Nat) (w : World) : Prop where
  below : Below B w0 w
  known : ∀ p ∈ known, w.heap[p.1]? = some p.2
  pair : ∀ r ∈ rs, ∃ x0 x1, w.heap[r]? = some (.cells #[x0, x1] t)
def pairSh (t : TypeId) (ob : Obj) : Prop := ∃ x0 x1, ob = .cells #[x0, x1] t
theorem Cls.later {w0 w w' : World} {B : Nat} {known : List (Nat × Obj)} {rs : List Nat} {t : TypeId} {n m : Nat} (h : Cls w0 B known rs t n w) (hB : B ≤ w.heap.size) (hb : Below w.heap.size w w') : Cls w0 B known rs t m w' :=
  ⟨h.below.trans (hb.mono hB), fun p hp => by rw [hb.block _ (Array.getElem?_eq_some_iff.1 (h.known p hp)).1]; exact h.known p hp,
    fun r hr => by obtain ⟨x0, x1, hx⟩ := h.pair r hr; exact ⟨x0, x1, by rw [hb.block _ (Array.getElem?_eq_some_iff.1 hx).1]; exact hx⟩⟩
theorem Cls.alloc {w0 : World} {B : Nat} {known : List (Nat × Obj)} {rs : List Nat} {t : TypeId} (hB : ∀ n w, Cls w0 B known rs t n w → B ≤ w.heap.size) : ∀ n w o, Cls w0 B known rs t n w → Cls w0 B known rs t n (w.alloc o) :=
  fun n w o h => h.later (hB n w h) (below_box w o)
theorem Cls.size {w0 : World} {B : Nat} {known : List (Nat × Obj)} {rs : List Nat} {t : TypeId} (hB : B ≤ w0.heap.size) : ∀ n w, Cls w0 B known rs t n w → B ≤ w.heap.size := fun _ _ h => Nat.le_trans hB h.below.size
theorem Cls.put {w0 : World} {B : Nat} {known : List (Nat × Obj)} {rs : List Nat} {t : TypeId} {g : Nat} (hg : B ≤ g) (hk : ∀ p ∈ known, p.1 ≠ g) : ∀ n w ob, pairSh t ob → Cls w0 B known rs t n w → Cls w0 B known rs t n (wput w g ob) := by
  intro n w ob ⟨x0, x1, hob⟩ h
  refine ⟨⟨h.below.os, h.below.tape, h.below.output, by rw [wput_size]; exact h.below.size, fun k hk' => ?_⟩, fun p hp => ?_, fun r hr => ?_⟩
  · show (w.heap.setIfInBounds g ob)[k]? = _
    rw [Array.getElem?_setIfInBounds_ne (by omega)]; exact h.below.block k hk'
  · show (w.heap.setIfInBounds g ob)[p.1]? = _
    rw [Array.getElem?_setIfInBounds_ne (Ne.symm (hk p hp))]; exact h.known p hp
  · by_cases hgr : g = r
    · subst hgr
      obtain ⟨y0, y1, hy⟩ := h.pair g hr
      have hlt := (Array.getElem?_eq_some_iff.1 hy).1
      exact ⟨x0, x1, by show (w.heap.setIfInBounds g ob)[g]? = _; rw [Array.getElem?_setIfInBounds_self_of_lt hlt, hob]⟩
    · obtain ⟨y0, y1, hy⟩ := h.pair r hr
      exact ⟨y0, y1, by show (w.heap.setIfInBounds g ob)[r]? = _; rw [Array.getElem?_setIfInBounds_ne hgr]; exact hy⟩
theorem Cls.drew {w0 w : World} {B : Nat} {known : List (Nat × Obj)} {rs : List Nat} {t : TypeId} {n : Nat} (h : Cls w0 B known rs t n w) : Cls w0 B known rs t n w.drew := ⟨h.below.drew, h.known, h.pair⟩
end
end Go.RegE

namespace Go.RegH
open Go.RowKit Go.LatT
section
variable {P : Program} {ops : Array Oper} {md : Region.Mode} {S : World → Prop}
theorem wp_monoQ {o : Oper} {a : Act} {w : World} {K K' : Act → World → Prop} {Q Q' : Exit → Act → World → Prop} (h : ∀ a w, K a w → K' a w) (hE : ∀ e a w, e ≠ .normal → Q e a w → Q' e a w)
    (hh : o.wp P a w K Q) : o.wp P a w K' Q' := by
  unfold Oper.wp at *
  generalize (execOp a.eval o).run P w = r at *
  cases r with
  | ok n w' =>
    cases n <;> simp only [Oper.upon] at hh ⊢ <;>
      first
        | exact h _ _ hh
        | exact Calls.mono hh (fun e w'' he => by cases e <;> first | exact h _ _ he | exact hE _ _ _ (by simp) he | exact (he : LetsOut Q).imp fun a h => h.imp fun w h => hE _ _ _ (by simp) h)
        | exact Rows.mono hh (fun _ _ he => h _ _ he)
        | exact hE _ _ _ (by simp) hh
        | exact hh
  | halt x w' => cases x <;> simp only [Oper.upon] at hh ⊢ <;> first | exact hh | exact hE _ _ _ (by simp) hh
/-- What is asked ahead of the last operation. -/
def QT (P : Program) (ops : Array Oper) (o : Oper) (Q : Exit → Act → World → Prop) : Exit → Act → World → Prop
  | .normal, a, w => wpList P ops Q [o] a w
  | e, a, w => Q e a w
theorem QT_of {o : Oper} {Q : Exit → Act → World → Prop} (e : Exit) (a : Act) (w : World) (he : e ≠ .normal) (h : QT P ops o Q e a w) : Q e a w := by
  cases e <;> first | exact h | exact absurd rfl he
theorem wpAny_blank_last {n : Nat} {o : Oper} (hn : ops[n]? = some o) (hsz : ops.size = n + 1) (hwait : ∀ i, i < n → ∃ e ∈ o.after, Region.binds md e = true ∧ e.on = i)
    (hac : ∀ (i : Nat) (o : Oper), ops[i]? = some o → ∀ e ∈ o.after, e.on < i) (hg : o.guard = none) (hdst : o.dst = none) {Q : Exit → Act → World → Prop} :
    ∀ (fuel : Nat) (listed : Array Bool) (a : Act) (w : World), listed.size = ops.size → listed.getD n true = false →
      wpAny P md (ops.setIfInBounds n (blanked o)) (QT P ops o Q) fuel listed a w → wpAny P md ops Q fuel listed a w
  | 0, listed, a, w, hls, hu, h => by
    have h0 := h.1
    rw [ready_blank hn] at h0
    exact absurd h0 (some_ready hac hls n n (Nat.le_refl _) (by omega) hu)
  | fuel + 1, listed, a, w, hls, hu, h => by
    refine ⟨fun h0 => absurd h0 (some_ready hac hls n n (Nat.le_refl _) (by omega) hu), fun i hi => ?_⟩
    have h2 := h.2 i (by rw [ready_blank hn]; exact hi)
    by_cases hin : i = n
    · subst hin
      have hall : ∀ j, j < i → listed.getD j false = true := by
        intro j hj
        obtain ⟨_, o', ho', ha⟩ := mem_ready.1 hi
        have : o' = o := Option.some.inj (ho'.symm.trans hn)
        subst this
        obtain ⟨e, he, hb, hon⟩ := hwait j hj
        rw [← hon]; exact ha e he hb
      have hdone : Region.ready md ops (listed.setIfInBounds i true) = [] := by
        apply List.eq_nil_iff_forall_not_mem.2
        intro j hj
        obtain ⟨hun, o', ho', _⟩ := mem_ready.1 hj
        have hjlt : j < ops.size := (Array.getElem?_eq_some_iff.1 ho').1
        by_cases hji : i = j
        · subst hji
          have : i < listed.size := by omega
          simp [this] at hun
        · rw [getD_set_ne true hji] at hun
          have h3 := hall j (by omega)
          have hs : j < listed.size := by omega
          simp [hs] at hun h3
          rw [hun] at h3; cases h3
      have hput : ∀ (a : Act) (v : Value), a.put (blanked o).dst v = a := by intro a v; simp [blanked, hdst, Act.put]
      have hq : wpList P ops Q [o] a w := by
        unfold wpOp at h2
        rw [at_blank hn, if_pos rfl] at h2
        have hw : Region.wanted (blanked o) (yielded (ops.setIfInBounds i (blanked o)) a.tmps) = true := by simp [Region.wanted, blanked, hg]
        simp only [hw, if_true] at h2
        have hd : Region.ready md (ops.setIfInBounds i (blanked o)) (listed.setIfInBounds i true) = [] := by rw [ready_blank hn]; exact hdone
        have hr := BigFrame.run_move (P := P) (w := w) (ρ := a.eval) (o := blanked o) (.const (.bool true)) rfl
        rcases h2 with h4 | ⟨h4, _⟩
        · unfold Oper.wp at h4
          rw [hr] at h4
          simp only [Oper.upon] at h4
          rw [hput] at h4
          cases fuel with
          | zero => exact h4.2
          | succ f => exact h4.1 hd
        · unfold Oper.asks at h4
          have h5 : noRoomEvent ∈ (#[] : Array Event) := h4.1
          simp at h5
      have hwa : Region.wanted o (yielded ops a.tmps) = true := by simp [Region.wanted, hg]
      simp only [wpList, hwa, if_true] at hq
      unfold wpOp
      rw [hn]
      simp only [hwa, if_true]
      exact hq.imp (fun h5 => Oper.wp_mono (fun a' w' h' => wpAny_stop hdone fuel a' w' h') h5) (fun h5 => h5)
    · unfold wpOp at h2 ⊢
      rw [at_blank hn, if_neg hin, yielded_blank hn] at h2
      have ih := fun a' w' h' => wpAny_blank_last hn hsz hwait hac hg hdst (Q := Q) fuel (listed.setIfInBounds i true) a' w' (by simp [hls]) (by rw [getD_set_ne true hin]; exact hu) h'
      split
      · rename_i ho
        simp only [ho] at h2
        exact ih _ _ h2
      · rename_i oi ho
        simp only [ho] at h2
        split
        · rename_i hw
          simp only [hw, if_true] at h2
          exact h2.imp (wp_monoQ ih QT_of) (fun h5 => ⟨h5.1, h5.2.imp fun a h => h.imp fun w h => QT_of _ _ _ (by simp) h⟩)
        · rename_i hw
          simp only [hw] at h2
          exact ih _ _ h2
/-- What is asked of the region, by a Bool. -/
def lastC (l : List Oper) (o : Oper) : Bool :=
  o.guard.isNone && o.dst.isNone && (List.range (l.length - 1)).all (fun i => o.after.any fun e => Region.binds .any e && e.on == i) &&
  (List.range l.length).all (fun i => ((l[i]?).map fun p => p.after.all fun e => decide (e.on < i)).getD true)
theorem wp_region_held_tail {id : Nat} {Q : Exit → Act → World → Prop} {a : Act} {w : World} {l init : List Oper} {o : Oper} (hm : P.follows .mixedOrders = true)
    (hi : l.dropLast = init) (ho : l.getLast? = some o) (hB : lastC l o = true)
    (h : wpAnyH P .any (init ++ [blanked o]).toArray (QT P l.toArray o Q) S l.length (Array.replicate l.length false) a w.drew) : (Code.region id l.toArray true).wp P Q a w := by
  have hne : l ≠ [] := by intro e; rw [e] at ho; cases ho
  have hl : l = init ++ [o] := by
    rw [← hi]
    rw [List.getLast?_eq_some_getLast hne] at ho
    rw [← Option.some.inj ho]; exact (List.dropLast_concat_getLast hne).symm
  simp only [lastC, Bool.and_eq_true] at hB
  obtain ⟨⟨⟨hg, hd⟩, hw⟩, hac⟩ := hB
  have hg' : o.guard = none := by simpa using hg
  have hd' : o.dst = none := by simpa using hd
  have hlen : l.length = init.length + 1 := by rw [hl]; simp
  have hn : l.toArray[init.length]? = some o := by rw [hl]; simp
  have hset : l.toArray.setIfInBounds init.length (blanked o) = (init ++ [blanked o]).toArray := by
    rw [hl]; simp
  refine wp_region_any hm ?_
  refine wpAny_blank_last hn (by simp [hlen]) (by
      intro i hi'
      have := List.all_eq_true.1 hw i (List.mem_range.2 (by omega))
      obtain ⟨e, he, hb⟩ := Array.any_eq_true'.1 this
      simp only [Bool.and_eq_true, beq_iff_eq] at hb
      exact ⟨e, he, hb.1, hb.2⟩) (by
      intro i p hp e he
      have hlt : i < l.length := by have := (Array.getElem?_eq_some_iff.1 hp).1; simpa using this
      have := List.all_eq_true.1 hac i (List.mem_range.2 hlt)
      have hp' : l[i]? = some p := by simpa using hp
      rw [hp'] at this
      simp only [Option.map_some, Option.getD_some] at this
      have := Array.all_eq_true_iff_forall_mem.1 this e he
      simpa using this) hg' hd' l.toArray.size (Array.replicate l.toArray.size false) a { w with drawn := w.drawn + 1 } (by simp) (by simp [hlen]) ?_
  rw [hset]
  have h1 := wpAny_of_held _ _ _ _ h
  simpa using h1
end
end Go.RegH

namespace Go.Proofs.YtefmmopkikpnhaaGreatDoor
open Go.RowKit Go.LatT Go.BlockM Go.RegE
set_option linter.unusedVariables false
set_option linter.unusedSimpArgs false
/-- What a reader reads: n bytes from a place on. -/
structure Src (w : World) (bb off n : Nat) (z : Nat → Int) : Prop where
  cell : ∀ i, i < n → w.cell? ⟨bb, off + i, none⟩ = some (.int .u8 (z i))
  lo : ∀ i, 0 ≤ z i
  hi : ∀ i, z i ≤ 255
/-- A reader, at a place. -/
structure Rdr (w : World) (R : Nat) (sl : Value) (p : Int) : Prop where
  c0 : w.cell? ⟨R, 0, none⟩ = some sl
  c1 : w.cell? ⟨R, 1, none⟩ = some (.int .i64 p)
  fz : w.frozen? ⟨R, 1, none⟩ = false
  src : (∃ a c, sl = .slice a 0 c) ∨ ∃ bb off n cap z, sl = .slice (some ⟨bb, off, none⟩) n cap ∧ bb ≠ R ∧ 1 ≤ n ∧ n ≤ 2000 ∧ Src w bb off n z
/-- All but one block is as it was. -/
structure Mv (R : Nat) (w w' : World) : Prop where
  os : w'.os = w.os
  tape : w'.tape = w.tape
  output : w'.output = w.output
  size : w.heap.size ≤ w'.heap.size
  block : ∀ k, k < w.heap.size → k ≠ R → w'.heap[k]? = w.heap[k]?
theorem Mv.refl (R : Nat) (w : World) : Mv R w w := ⟨rfl, rfl, rfl, Nat.le_refl _, fun _ _ _ => rfl⟩
theorem Mv.trans {R : Nat} {a b c : World} (h : Mv R a b) (k : Mv R b c) : Mv R a c :=
  ⟨k.os.trans h.os, k.tape.trans h.tape, k.output.trans h.output, Nat.le_trans h.size k.size, fun i hi hr => (k.block i (Nat.lt_of_lt_of_le hi h.size) hr).trans (h.block i hi hr)⟩
theorem Mv.of_below {R : Nat} {w w' : World} (h : Below w.heap.size w w') : Mv R w w' := ⟨h.os, h.tape, h.output, h.size, fun k hk _ => h.block k hk⟩
theorem Mv.below {R B : Nat} {w w' : World} (h : Mv R w w') (hB : B ≤ w.heap.size) (hR : B ≤ R) : Below B w w' := ⟨h.os, h.tape, h.output, h.size, fun k hk => h.block k (by omega) (by omega)⟩
theorem Mv.set (R : Nat) (w : World) (v : Value) (k : Nat) : Mv R w ((w.setCell ⟨R, 1, none⟩ v).drewN k) :=
  ⟨rfl, rfl, rfl, by simp [World.setCell], fun i _ hr => Below.heap_setCell _ _ _ _ hr⟩
theorem Mv.cell {R : Nat} {w w' : World} (h : Mv R w w') (b o : Nat) (hb : b < w.heap.size) (hr : b ≠ R) : w'.cell? ⟨b, o, none⟩ = w.cell? ⟨b, o, none⟩ := by
  unfold World.cell?; rw [h.block b hb hr]
theorem Mv.frozen {R : Nat} {w w' : World} (h : Mv R w w') (b o : Nat) (hb : b < w.heap.size) (hr : b ≠ R) : w'.frozen? ⟨b, o, none⟩ = w.frozen? ⟨b, o, none⟩ := by
  unfold World.frozen?; rw [h.block b hb hr]
theorem cell_lt {w : World} {b o : Nat} {v : Value} (h : w.cell? ⟨b, o, none⟩ = some v) : b < w.heap.size := by
  unfold World.cell? at h
  rcases Nat.lt_or_ge b w.heap.size with h' | h'
  · exact h'
  · simp [Array.getElem?_eq_none h'] at h
theorem Rdr.lt {w : World} {R : Nat} {sl : Value} {p : Int} (h : Rdr w R sl p) : R < w.heap.size := cell_lt h.c1
theorem Rdr.src_of {w w' : World} {R : Nat} {sl : Value} {p : Int} (h : Rdr w R sl p) (hm : Mv R w w') :
    (∃ a c, sl = .slice a 0 c) ∨ ∃ bb off n cap z, sl = .slice (some ⟨bb, off, none⟩) n cap ∧ bb ≠ R ∧ 1 ≤ n ∧ n ≤ 2000 ∧ Src w' bb off n z := by
  rcases h.src with h1 | ⟨bb, off, n, cap, z, e, hne, h1, h2, hs⟩
  · exact .inl h1
  · exact .inr ⟨bb, off, n, cap, z, e, hne, h1, h2, ⟨fun i hi => by rw [hm.cell _ _ (cell_lt (hs.cell i hi)) hne]; exact hs.cell i hi, hs.lo, hs.hi⟩⟩
theorem Rdr.later {w w' : World} {R : Nat} {sl : Value} {p : Int} (h : Rdr w R sl p) (hb : Below w.heap.size w w') : Rdr w' R sl p := by
  obtain ⟨hc, hf⟩ := bcell hb
  exact ⟨by rw [hc _ _ h.lt]; exact h.c0, by rw [hc _ _ h.lt]; exact h.c1, by rw [hf _ _ h.lt]; exact h.fz, h.src_of (Mv.of_below hb)⟩
theorem Rdr.step {w : World} {R : Nat} {sl : Value} {p : Int} (h : Rdr w R sl p) (q : Int) (k : Nat) : Rdr ((w.setCell ⟨R, 1, none⟩ (.int .i64 q)).drewN k) R sl q := by
  have c0 := h.c0
  have c1 := h.c1
  have fz := h.fz
  exact ⟨by go_simp, by go_simp, by go_simp, h.src_of (Mv.set R w _ k)⟩
end Go.Proofs.YtefmmopkikpnhaaGreatDoor

