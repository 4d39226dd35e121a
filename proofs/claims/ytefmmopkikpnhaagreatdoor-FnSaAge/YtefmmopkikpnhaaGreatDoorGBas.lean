/- What is proved: the contracts of Lat, Math, Opn, Own, ApdG, ApdK, BytM, AesM, RowQ, RegE, RegH, DrwA, one behind the other. The conditions stand at each theorem. -/
import Derived.Deep.Quiet
import Derived.Below
import Derived.BigQuiet
import Derived.IntWalk
import Derived.Laws.BitsAllLaws
import Derived.WalkKit
import Derived.ProofKit
import Derived.Lib.SmallJoins
import Derived.Lib.SliceRun
import Derived.Deep.Slices
import Derived.Laws.AppendOwn
import Derived.Deep.Heap
import Derived.OwnWalk
import Derived.Laws.OwnMore
import Derived.PlainAid
import Derived.Laws.Rows
import Derived.Laws.Tables
import Derived.Laws.Cells
import Derived.OrdersHeld
import Derived.Test.YtefmmopkikpnhaaGreatDoorProg
import Derived.WalkSpells
import Derived.WalkLawsBesides
import Derived.Deep.RegionWith
namespace Go.LatT
open Go.RowKit
section
variable {P : Program} {ops : Array Oper} {C : World → Prop} {md : Region.Mode}

/-- The operation, doing nothing in its place. -/
def blanked (o : Oper) : Oper := { o with op := .move (.const (.bool true)) }

theorem at_blank {n : Nat} {o : Oper} (hn : ops[n]? = some o) (j : Nat) : (ops.setIfInBounds n (blanked o))[j]? = if j = n then some (blanked o) else ops[j]? := by
  have hlt : n < ops.size := (Array.getElem?_eq_some_iff.1 hn).1
  rw [Array.getElem?_setIfInBounds]
  by_cases h : n = j
  · subst h; simp [hlt]
  · rw [if_neg h, if_neg (Ne.symm h)]

theorem ready_blank {n : Nat} {o : Oper} (hn : ops[n]? = some o) (listed : Array Bool) : Region.ready md (ops.setIfInBounds n (blanked o)) listed = Region.ready md ops listed := by
  unfold Region.ready
  rw [Array.size_setIfInBounds]
  apply List.filter_congr
  intro i _
  rw [at_blank hn]
  by_cases h : i = n
  · subst h; simp [hn, blanked]
  · rw [if_neg h]

theorem yielded_blank {n : Nat} {o : Oper} (hn : ops[n]? = some o) (tmps : Array Value) : yielded (ops.setIfInBounds n (blanked o)) tmps = yielded ops tmps := by
  funext j
  unfold yielded
  rw [at_blank hn]
  by_cases h : j = n
  · subst h; simp [hn, blanked]
  · rw [if_neg h]

theorem wpAny_stop {Q' : Exit → Act → World → Prop} {listed : Array Bool} (h0 : Region.ready md ops listed = []) (f : Nat) (a : Act) (w : World) (h : Q' .normal a w) : wpAny P md ops Q' f listed a w := by
  cases f with
  | zero => exact ⟨h0, h⟩
  | succ f => exact ⟨fun _ => h, fun i hi => by rw [h0] at hi; cases hi⟩

theorem some_ready {listed : Array Bool} (hac : ∀ (i : Nat) (o : Oper), ops[i]? = some o → ∀ e ∈ o.after, e.on < i) (hls : listed.size = ops.size) :
    ∀ (k n : Nat), n ≤ k → n < ops.size → listed.getD n true = false → Region.ready md ops listed ≠ [] := by
  intro k
  induction k with
  | zero =>
    intro n hk hn hu h0
    have : n = 0 := by omega
    subst this
    have hm : 0 ∈ Region.ready md ops listed := mem_ready.2 ⟨hu, ops[0], by simp [hn], fun e he _ => by have := hac 0 ops[0] (by simp [hn]) e he; omega⟩
    rw [h0] at hm; cases hm
  | succ k ih =>
    intro n hk hn hu h0
    by_cases hall : ∀ e ∈ (ops[n]'hn).after, Region.binds md e = true → listed.getD e.on false = true
    · have hm : n ∈ Region.ready md ops listed := mem_ready.2 ⟨hu, ops[n], by simp [hn], hall⟩
      rw [h0] at hm; cases hm
    · obtain ⟨e, he⟩ := Classical.not_forall.1 hall
      obtain ⟨hm, he⟩ := Classical.not_imp.1 he
      obtain ⟨_, he⟩ := Classical.not_imp.1 he
      have hlt := hac n ops[n] (by simp [hn]) e hm
      refine ih e.on (by omega) (by omega) ?_ h0
      have hs : e.on < listed.size := by omega
      simp [hs] at he ⊢
      exact he

theorem wpAny_of_quiet_last {n : Nat} {o : Oper} (hn : ops[n]? = some o) (hsz : ops.size = n + 1) (hwait : ∀ i, i < n → ∃ e ∈ o.after, Region.binds md e = true ∧ e.on = i)
    (hac : ∀ (i : Nat) (o : Oper), ops[i]? = some o → ∀ e ∈ o.after, e.on < i) (hg : o.guard = none) (hdst : o.dst = none)
    {Q : Act → Prop} {Q' : Exit → Act → World → Prop} (hQ : ∀ a w, C w → Q a → (o.wp P a w (fun a' w' => Q' .normal a' w') Q' ∨ (o.asks P a w ∧ LetsOut Q'))) :
    ∀ (fuel : Nat) (listed : Array Bool) (a : Act) (w : World), listed.size = ops.size → listed.getD n true = false → C w →
      wpAnyQ P md (ops.setIfInBounds n (blanked o)) C Q fuel listed a → wpAny P md ops Q' fuel listed a w
  | 0, listed, a, w, hls, hu, hC, h => by
    have h0 := h.1
    rw [ready_blank hn] at h0
    exact absurd h0 (some_ready hac hls n n (Nat.le_refl _) (by omega) hu)
  | fuel + 1, listed, a, w, hls, hu, hC, h => by
    refine ⟨fun h0 => absurd h0 (some_ready hac hls n n (Nat.le_refl _) (by omega) hu), fun i hi => ?_⟩
    have h2 := h.2 i (by rw [ready_blank hn]; exact hi)
    by_cases hin : i = n
    · subst hin
      have hall : ∀ j, j < i → listed.getD j false = true := by
        intro j hj
        obtain ⟨_, o', ho', ha⟩ := mem_ready.1 hi
        have : o' = o := Option.some.inj (ho'.symm.trans hn)
        subst this
        obtain ⟨e, he, hb, hon⟩ := hwait j hj
        rw [← hon]; exact ha e he hb
      have hdone : Region.ready md ops (listed.setIfInBounds i true) = [] := by
        apply List.eq_nil_iff_forall_not_mem.2
        intro j hj
        obtain ⟨hun, o', ho', _⟩ := mem_ready.1 hj
        have hjlt : j < ops.size := (Array.getElem?_eq_some_iff.1 ho').1
        by_cases hji : i = j
        · subst hji
          have : i < listed.size := by omega
          simp [this] at hun
        · rw [getD_set_ne true hji] at hun
          have h3 := hall j (by omega)
          have hs : j < listed.size := by omega
          simp [hs] at hun h3
          rw [hun] at h3; cases h3
      unfold qOp at h2
      rw [at_blank hn, if_pos rfl] at h2
      have hq : Q a := by
        have hput : ∀ (a : Act) (v : Value), a.put (blanked o).dst v = a := by intro a v; simp [blanked, hdst, Act.put]
        have hw : Region.wanted (blanked o) (yielded (ops.setIfInBounds i (blanked o)) a.tmps) = true := by simp [Region.wanted, blanked, hg]
        simp only [hw, if_true] at h2
        obtain ⟨v, _, h4⟩ := h2
        rw [hput] at h4
        have hd : Region.ready md (ops.setIfInBounds i (blanked o)) (listed.setIfInBounds i true) = [] := by rw [ready_blank hn]; exact hdone
        cases fuel with
        | zero => exact h4.2
        | succ f => exact h4.1 hd
      unfold wpOp
      rw [hn]
      have hw : Region.wanted o (yielded ops a.tmps) = true := by simp [Region.wanted, hg]
      simp only [hw, if_true]
      exact (hQ a w hC hq).imp (fun h5 => Oper.wp_mono (fun a' w' h' => wpAny_stop hdone fuel a' w' h') h5) (fun h5 => h5)
    · have h3 : qOp P ops C i (wpAnyQ P md (ops.setIfInBounds n (blanked o)) C Q fuel (listed.setIfInBounds i true)) a := by
        unfold qOp at h2 ⊢
        rw [at_blank hn, if_neg hin, yielded_blank hn] at h2
        exact h2
      exact wpOp_of_qOp hC (fun a' w' hw' h' => wpAny_of_quiet_last hn hsz hwait hac hg hdst hQ fuel _ a' w' (by simp [hls]) (by rw [getD_set_ne true hin]; exact hu) hw' h') h3

/-- What is asked of a region whose last operation waits for all others, by a Bool. -/
def lastB (l : List Oper) (o : Oper) : Bool :=
  o.guard.isNone && o.dst.isNone && (List.range (l.length - 1)).all (fun i => o.after.any fun e => Region.binds .any e && e.on == i) &&
  (List.range l.length).all (fun i => ((l[i]?).map fun p => p.after.all fun e => decide (e.on < i)).getD true) && Region.lexB .any (l.dropLast ++ [blanked o]).toArray

/-- A world that is as w was below w's own end. -/
structure Lat (w : World) where
  x : World
  h : Below w.heap.size w x
theorem Lat.cell {w : World} (l : Lat w) (b o : Nat) (h : b < w.heap.size) : l.x.cell? ⟨b, o, none⟩ = w.cell? ⟨b, o, none⟩ := l.h.cell (p := ⟨b, o, none⟩) h
theorem Lat.frozen {w : World} (l : Lat w) (b o : Nat) (h : b < w.heap.size) : l.x.frozen? ⟨b, o, none⟩ = w.frozen? ⟨b, o, none⟩ := l.h.frozen (p := ⟨b, o, none⟩) h
theorem lat_of {f : FuncId} {args : Array Value} {w : World} {l : Lat w} {v : Value}
    (h : Calls P f args l.x fun e w' => e = .returned v ∧ Below l.x.heap.size l.x w') : Calls P f args l.x fun e w'' => e = .returned v ∧ ∃ m : Lat w, w'' = m.x :=
  h.mono fun _ _ ⟨he, hm⟩ => ⟨he, ⟨_, l.h.trans (hm.mono l.h.size)⟩, rfl⟩
theorem lat_same {f : FuncId} {args : Array Value} {w : World} {l : Lat w} {v : Value}
    (h : Calls P f args l.x fun e w' => e = .returned v ∧ w' = l.x) : Calls P f args l.x fun e w'' => e = .returned v ∧ ∃ m : Lat w, w'' = m.x :=
  h.mono fun _ _ ⟨he, hm⟩ => ⟨he, l, hm⟩
theorem lat_all (w : World) (Q : World → Prop) : (∀ w', (∃ n : Lat w, w' = n.x) → Q w') ↔ ∀ w', Below w.heap.size w w' → Q w' :=
  ⟨fun h w' hb => h w' ⟨⟨w', hb⟩, rfl⟩, fun h w' ⟨n, e⟩ => by subst e; exact h _ n.h⟩

/-- A region that draws its order, reads what was there and calls what only makes memory: one walk, in the text's order. -/
theorem wp_region_lat {id : Nat} {Q : Exit → Act → World → Prop} {a : Act} {w wn : World} {l : List Oper} (h0 : Below w.heap.size w wn) (hm : P.follows .mixedOrders = true) (hB : Region.lexB .any l.toArray = true)
    (h : Nonempty (Lat w) → (∀ (l : Lat w) (b o : Nat), b < w.heap.size → l.x.cell? ⟨b, o, none⟩ = w.cell? ⟨b, o, none⟩) →
      wpQuiet P l.toArray (fun w' => ∃ n : Lat w, w' = n.x) (fun a' => ∀ w', Below w.heap.size w w' → Q .normal a' w') l a) : (Code.region id l.toArray true).wp P Q a wn := by
  have h1 := h ⟨⟨w, Below.refl _ _⟩⟩ Lat.cell
  refine wp_region_quiet (C := fun w' => ∃ n : Lat w, w' = n.x) hm hB ⟨⟨wn.drew, h0.drew⟩, rfl⟩ ?_
  have e : (fun a' => ∀ w', (∃ n : Lat w, w' = n.x) → Q .normal a' w') = (fun a' => ∀ w', Below w.heap.size w w' → Q .normal a' w') := by
    funext a'
    exact propext (lat_all w _)
  rw [e]
  simpa using h1

theorem wpQuiet_congr {Q : Act → Prop} {ops' : Array Oper} (hy : ∀ tmps, yielded ops' tmps = yielded ops tmps) : ∀ (l : List Oper) (a : Act), wpQuiet P ops C Q l a → wpQuiet P ops' C Q l a
  | [], _, h => h
  | o :: l, a, h => by
    simp only [wpQuiet, hy] at h ⊢
    split
    · rename_i hw; simp only [hw, if_true] at h
      exact Oper.quiet_mono (fun a' h' => wpQuiet_congr hy l a' h') h
    · rename_i hw; simp only [hw] at h
      exact wpQuiet_congr hy l _ h

theorem wpQuiet_snoc {Q : Act → Prop} {o : Oper} (hg : o.guard = none) (hd : o.dst = none) : ∀ (l : List Oper) (a : Act), wpQuiet P ops C Q l a → wpQuiet P ops C Q (l ++ [blanked o]) a
  | [], a, h => by
    have hw : Region.wanted (blanked o) (yielded ops a.tmps) = true := by simp [Region.wanted, blanked, hg]
    simp only [List.nil_append, wpQuiet, hw, if_true]
    refine ⟨.bool true, fun w _ => ?_, ?_⟩
    · unfold Oper.quietAt
      rw [BigFrame.run_move (.const (.bool true)) rfl]
      exact ⟨rfl, rfl⟩
    · have : a.put (blanked o).dst (.bool true) = a := by simp [blanked, hd, Act.put]
      rw [this]; exact h
  | p :: l, a, h => by
    simp only [List.cons_append, wpQuiet] at h ⊢
    split
    · rename_i hw; simp only [hw, if_true] at h
      exact Oper.quiet_mono (fun a' h' => wpQuiet_snoc hg hd l a' h') h
    · rename_i hw; simp only [hw] at h
      exact wpQuiet_snoc hg hd l _ h

/-- The same where the last operation, a store, waits for all others. -/
theorem wp_region_lat_tail {id : Nat} {Q : Exit → Act → World → Prop} {a : Act} {w wn : World} {l init : List Oper} {o : Oper} (h0 : Below w.heap.size w wn) (hm : P.follows .mixedOrders = true)
    (hi : l.dropLast = init) (ho : l.getLast? = some o) (hB : lastB l o = true)
    (h : Nonempty (Lat w) → (∀ (l : Lat w) (b o : Nat), b < w.heap.size → l.x.cell? ⟨b, o, none⟩ = w.cell? ⟨b, o, none⟩) →
      wpQuiet P l.toArray (fun w' => ∃ n : Lat w, w' = n.x) (fun a' => ∀ w', Below w.heap.size w w' → wpList P l.toArray Q [o] a' w') init a) : (Code.region id l.toArray true).wp P Q a wn := by
  have h1 := h ⟨⟨w, Below.refl _ _⟩⟩ Lat.cell
  have hne : l ≠ [] := by intro e; rw [e] at ho; cases ho
  have hl : l = init ++ [o] := by
    rw [← hi]
    rw [List.getLast?_eq_some_getLast hne] at ho
    rw [← Option.some.inj ho]; exact (List.dropLast_concat_getLast hne).symm
  simp only [lastB, Bool.and_eq_true] at hB
  obtain ⟨⟨⟨⟨hg, hd⟩, hw⟩, hac⟩, hlex⟩ := hB
  have hg' : o.guard = none := by simpa using hg
  have hd' : o.dst = none := by simpa using hd
  have hlen : l.length = init.length + 1 := by rw [hl]; simp
  have hn : l.toArray[init.length]? = some o := by rw [hl]; simp
  have hset : l.toArray.setIfInBounds init.length (blanked o) = (init ++ [blanked o]).toArray := by
    rw [hl]; simp
  have hy : ∀ tmps, yielded (init ++ [blanked o]).toArray tmps = yielded l.toArray tmps := by
    intro tmps; rw [← hset]; exact yielded_blank hn tmps
  rw [hi] at hlex
  simp only [Region.lexB, Bool.and_eq_true] at hlex
  have h2 := wpQuiet_snoc (o := o) hg' hd' init a (wpQuiet_congr hy init a h1)
  have h3 := wpAnyQ_lex (C := fun w' => ∃ n : Lat w, w' = n.x) (md := .any) hlex.1 (init ++ [blanked o]) 0 (Array.replicate (init ++ [blanked o]).toArray.size false) a (by simp) (by simpa using hlex.2) h2
  refine wp_region_any hm ?_
  have hQ : ∀ (a : Act) (w1 : World), (∃ n : Lat w, w1 = n.x) → (∀ w', Below w.heap.size w w' → wpList P l.toArray Q [o] a w') → (o.wp P a w1 (fun a' w' => Q .normal a' w') Q ∨ (o.asks P a w1 ∧ LetsOut Q)) := by
    intro a w1 hC hq
    have := (lat_all w (fun w' => wpList P l.toArray Q [o] a w')).2 hq w1 hC
    have hwa : Region.wanted o (yielded l.toArray a.tmps) = true := by simp [Region.wanted, hg']
    simp only [wpList, hwa, if_true] at this
    exact this
  have h4 := wpAny_of_quiet_last (P := P) (C := fun w' => ∃ n : Lat w, w' = n.x) (md := .any) hn (by simp [hlen]) (by
      intro i hi'
      have := List.all_eq_true.1 hw i (List.mem_range.2 (by omega))
      obtain ⟨e, he, hb⟩ := Array.any_eq_true'.1 this
      simp only [Bool.and_eq_true, beq_iff_eq] at hb
      exact ⟨e, he, hb.1, hb.2⟩) (by
      intro i p hp e he
      have hlt : i < l.length := by have := (Array.getElem?_eq_some_iff.1 hp).1; simpa using this
      have := List.all_eq_true.1 hac i (List.mem_range.2 hlt)
      have hp' : l[i]? = some p := by simpa using hp
      rw [hp'] at this
      simp only [Option.map_some, Option.getD_some] at this
      have := Array.all_eq_true_iff_forall_mem.1 this e he
      simpa using this) hg' hd' hQ l.toArray.size (Array.replicate l.toArray.size false) a { wn with drawn := wn.drawn + 1 } (by simp) (by simp [hlen]) ⟨⟨wn.drew, h0.drew⟩, rfl⟩ (by
      rw [hset]; simpa [hlen] using h3)
  exact h4
end
theorem bcell {W w1 : World} (hb : Below W.heap.size W w1) : (∀ b o, b < W.heap.size → w1.cell? ⟨b, o, none⟩ = W.cell? ⟨b, o, none⟩) ∧ (∀ b o, b < W.heap.size → w1.frozen? ⟨b, o, none⟩ = W.frozen? ⟨b, o, none⟩) :=
  ⟨fun b o h => hb.cell (p := ⟨b, o, none⟩) h, fun b o h => hb.frozen (p := ⟨b, o, none⟩) h⟩
theorem below_later {w w1 w2 : World} (h1 : Below w.heap.size w w1) (h2 : Below w1.heap.size w1 w2) : Below w.heap.size w w2 := h1.trans (h2.mono h1.size)
theorem below_box (w : World) (o : Obj) : Below w.heap.size w (w.alloc o) := (Below.refl _ _).alloc (Nat.le_refl _) _
theorem ret_int {k : IntKind} {a b : Int} (h : a = b) : Ending.returned (.int k a) = .returned (.int k b) := by rw [h]
theorem ret_bool {a b : Bool} (h : a = b) : Ending.returned (.bool a) = .returned (.bool b) := by rw [h]
theorem hid_in {p : Prop} (h : p) : Hid p := h
end Go.LatT

namespace Go.BlockM
open Go.RowKit
def inB (n lo hi : Int) : Bool := decide (lo ≤ n ∧ n ≤ hi)
def pw (n : Int) : Int := 2 ^ n.toNat
/-- The block of so many bits that has an address. -/
def fl (a b : Int) : Int := a / pw (32 - b) * pw (32 - b)
theorem wrap_i64_small (n : Int) (h0 : 0 ≤ n) (h1 : n < 9223372036854775808) : IntKind.i64.wrap n = n := by
  simp [IntKind.wrap, IntKind.bits, IntKind.signed]
  split <;> omega
end Go.BlockM

namespace Go.OpnT
open Go.ChangeShapes Go.WideShapes Go.ChangeAt Go.RowKit Go.Joins Go.LatT
set_option linter.unusedVariables false
section
variable {H : Type} {enc : TypeId × Value → H} {P : Program} {w : World} {base : Nat} {spare : Nat → Bool} {held : Bool}
end
/-- A slice of structs of k numbers: empty, or a table of cells. -/
def Tab (w : World) (a : Option Addr) (len k : Nat) (E : Nat → Nat → Int) : Prop :=
  len = 0 ∨ ∃ bb off, a = some ⟨bb, off, none⟩ ∧ bb < w.heap.size ∧ ∀ i, i < len → ∀ j, j < k → w.cell? ⟨bb, off + i * k + j, none⟩ = some (.int .i64 (E i j))
theorem Tab.later {w w' : World} {a : Option Addr} {len k : Nat} {E : Nat → Nat → Int} (h : Tab w a len k E) (hb : Below w.heap.size w w') : Tab w' a len k E := by
  rcases h with h | ⟨bb, off, e, hlt, hc⟩
  · exact .inl h
  · exact .inr ⟨bb, off, e, Nat.lt_of_lt_of_le hlt hb.size, fun i hi j hj => by rw [(bcell hb).1 _ _ hlt]; exact hc i hi j hj⟩
end Go.OpnT

namespace Go.OpnT
open Go.LatT Go.RowKit
set_option linter.unusedVariables false
theorem owns_below {w w' : World} {base size n : Nat} {e : TypeId} {v : Value} {xs : List Value} (h : w.ownsRow base e size v n xs) (hb : Below w.heap.size w w') : w'.ownsRow base e size v n xs := by
  obtain ⟨h1, h2⟩ := h
  refine ⟨h1, ?_⟩
  rcases h2 with h2 | ⟨g, cap, cur, e1, e2, e3, e4, e5, e6, e7⟩
  · exact .inl h2
  · exact .inr ⟨g, cap, cur, e1, e2, by rw [hb.block _ (Array.getElem?_eq_some_iff.1 e3).1]; exact e3, e4, e5, e6, e7⟩
theorem owns_drew {w : World} {base size n : Nat} {e : TypeId} {v : Value} {xs : List Value} (h : w.ownsRow base e size v n xs) : w.drew.ownsRow base e size v n xs := h
/-- Behind an append: all that lay below B, and every block but the row's own, is as it was. -/
theorem grown_below {w w' : World} {B : Nat} {row : Option Nat} (hg : w.grownBy w' row) (hB : B ≤ w.heap.size) (hr : ∀ k, row = some k → B ≤ k) : Below B w w' :=
  (Below.refl B w).grown hg hB hr
theorem owns_own {w : World} {base size n : Nat} {e : TypeId} {v : Value} {xs : List Value} (h : w.ownsRow base e size v n xs) : ∀ k, v.ownBlock = some k → base ≤ k ∧ k < w.heap.size := World.ownsRow.lt h
theorem cells_new (w : World) (vs : List Value) (t : TypeId) : ∀ (j : Nat) (u : Value), vs[j]? = some u → (w.alloc (.cells vs.toArray t)).cell? ((⟨w.heap.size, 0, none⟩ : Addr).add j) = some u := by
  intro j u h
  have hb : (w.alloc (.cells vs.toArray t)).heap[w.heap.size]? = some (.cells vs.toArray t) := Go.Deep.blk_alloc_new _ _
  have : ((⟨w.heap.size, 0, none⟩ : Addr).add j) = ⟨w.heap.size, j, none⟩ := by
    unfold Addr.add
    by_cases hj : j = 0
    · rw [if_pos hj, hj]
    · rw [if_neg hj, Nat.zero_add]
  rw [this]
  unfold World.cell?
  rw [hb]
  simpa using h
end Go.OpnT

namespace Go.ApdG
open Go.RowKit Go.LatT Go.OpnT
set_option linter.unusedVariables false
set_option linter.unusedSimpArgs false
/-- A slice type T of elements e of k cells. -/
structure ElemT (P : Program) (T e : TypeId) (k : Nat) (z : Value) : Prop where
  under : P.underlying T = some (.slice e)
  info : ∃ i b, P.info? e = some i ∧ i.zero = some z ∧ i.size = k ∧ i.bytes = b ∧ b ≤ 4096
  zsz : z.cells.size = k
  pos : 0 < k
theorem ElemT.mk' {P : Program} {T e : TypeId} {k b : Nat} {z : Value} (h1 : P.underlying T = some (.slice e)) (h2 : (P.info? e).map (fun i => (i.zero, i.size, i.bytes)) = some (some z, k, b)) (hz : z.cells.size = k) (hk : 0 < k) (hb : b ≤ 4096) : ElemT P T e k z := by
  obtain ⟨i0, hi, hzz⟩ := Option.map_eq_some_iff.1 h2
  simp only [Prod.mk.injEq] at hzz
  exact ⟨h1, ⟨i0, b, hi, hzz.1, hzz.2.1, hzz.2.2, hb⟩, hz, hk⟩
section
variable {P : Program} {T e : TypeId} {k : Nat} {z : Value}
theorem wpG1 {o : Oper} {a : Act} {K : Act → World → Prop} {Q : Exit → Act → World → Prop} {w : World} (E : ElemT P T e k z) (s x : Operand)
    (ho : o.op = .call { callee := .builtin .append, args := #[s, x], argTypes := #[T, T] })
    (base : Nat) (v : Value) (n : Nat) (xs : List Value) (hs : a.eval s = v) (hown : w.ownsRow base e k v n xs) (ad : Addr) (m c : Nat) (news : List Value) (hx : a.eval x = .slice (some ad) m c)
    (hl : news.length = m * k) (hnews : ∀ j u, news[j]? = some u → w.cell? (ad.add j) = some u) (h1 : ∀ u ∈ news, u.oneCell' = true) (hlen : n + m ≤ 4000000) (hbase : base ≤ w.heap.size)
    (h : ∀ v' w', w'.ownsRow base e k v' (n + m) (xs ++ news) → w.grownBy w' v.ownBlock → (v' = .slice none 0 0 ↔ v = .slice none 0 0 ∧ m = 0) → K (a.put o.dst v') w') : o.wp P a w K Q := by
  obtain ⟨i, b, hi, hz, hsz, hb, hb'⟩ := E.info
  refine wp_append_own w s x T ho base e i z k b E.under hi hz hsz hb E.zsz E.pos v n xs hs hown ad m c news hx hl hnews h1 (by unfold maxLen; omega) ?_ hbase h
  exact Nat.le_trans (Nat.mul_le_mul hlen hb') (by omega)
theorem wpG {ops : Array Oper} {rest : List Oper} {o : Oper} {a : Act} {Q : Exit → Act → World → Prop} {w : World} (E : ElemT P T e k z) (hgd : o.guard = none) (s x : Operand)
    (ho : o.op = .call { callee := .builtin .append, args := #[s, x], argTypes := #[T, T] })
    (base : Nat) (v : Value) (n : Nat) (xs : List Value) (hs : a.eval s = v) (hown : w.ownsRow base e k v n xs) (ad : Addr) (m c : Nat) (news : List Value) (hx : a.eval x = .slice (some ad) m c)
    (hl : news.length = m * k) (hnews : ∀ j u, news[j]? = some u → w.cell? (ad.add j) = some u) (h1 : ∀ u ∈ news, u.oneCell' = true) (hlen : n + m ≤ 4000000) (hbase : base ≤ w.heap.size)
    (h : ∀ v' w', w'.ownsRow base e k v' (n + m) (xs ++ news) → w.grownBy w' v.ownBlock → (v' = .slice none 0 0 ↔ v = .slice none 0 0 ∧ m = 0) → wpList P ops Q rest (a.put o.dst v') w') : wpList P ops Q (o :: rest) a w :=
  wpList_plain hgd fun _ hK => wpG1 E s x ho base v n xs hs hown ad m c news hx hl hnews h1 hlen hbase fun v' w' h2 h3 h4 => hK _ _ (h v' w' h2 h3 h4)
theorem stepG {ops : Array Oper} {o : Oper} {a : Act} {K : Act → World → Prop} {Q : Exit → Act → World → Prop} {F : Prop} {w : World} (E : ElemT P T e k z) (hgd : o.guard = none) (s x : Operand)
    (ho : o.op = .call { callee := .builtin .append, args := #[s, x], argTypes := #[T, T] })
    (base : Nat) (v : Value) (n : Nat) (xs : List Value) (hs : a.eval s = v) (hown : w.ownsRow base e k v n xs) (ad : Addr) (m c : Nat) (news : List Value) (hx : a.eval x = .slice (some ad) m c)
    (hl : news.length = m * k) (hnews : ∀ j u, news[j]? = some u → w.cell? (ad.add j) = some u) (h1 : ∀ u ∈ news, u.oneCell' = true) (hlen : n + m ≤ 4000000) (hbase : base ≤ w.heap.size)
    (h : ∀ v' w', w'.ownsRow base e k v' (n + m) (xs ++ news) → w.grownBy w' v.ownBlock → (v' = .slice none 0 0 ↔ v = .slice none 0 0 ∧ m = 0) → K (a.put o.dst v') w') :
    if Region.wanted o (yielded ops a.tmps) = true then Oper.wp P o a w K Q else F := by
  have hw : Region.wanted o (yielded ops a.tmps) = true := by simp [Region.wanted, hgd]
  rw [if_pos hw]
  exact wpG1 E s x ho base v n xs hs hown ad m c news hx hl hnews h1 hlen hbase h
/-- make of a slice of one-cell elements, full. -/
theorem make1 (E : ElemT P T e 1 z) (n : Nat) (hn : n ≤ 1000000) (W : World) (hz : z.cells = #[z]) :
    (Instr.makeSlice T (.int .i64 (n : Int)) (.int .i64 (n : Int))).run P W = .ok (.slice (some ⟨W.heap.size, 0, none⟩) n n) (W.alloc (.cells (Array.replicate n z) e)) := by
  obtain ⟨i, b, hi, hz', hsz, hb, hb'⟩ := E.info
  have hbb : (b : Int) * (n : Int) ≤ 281474976710656 := by
    have h : b * n ≤ 4096 * 1000000 := Nat.mul_le_mul hb' hn
    have h2 : ((b * n : Nat) : Int) ≤ ((4096 * 1000000 : Nat) : Int) := by exact_mod_cast h
    rw [Int.natCast_mul] at h2
    omega
  have hr := run_make (P := P) W T e i z E.under hi hz' .i64 .i64 n n (by omega) (Int.le_refl _) (by rw [hb]; exact hbb) (by omega)
  simp only [Int.toNat_natCast, hsz, Nat.mul_one] at hr
  have e1 : madeCells z.cells n = Array.replicate n z := by
    apply Array.ext
    · simp [size_madeCells]
    · intro i h1 h2
      simp [madeCells, hz, Nat.mod_one]
  rw [e1] at hr
  exact hr
end
end Go.ApdG

namespace Go.ApdG
open Go.RowKit Go.LatT Go.OpnT
set_option linter.unusedVariables false
set_option linter.unusedSimpArgs false
section
variable {P : Program} {T e : TypeId} {k : Nat} {z : Value}
/-- What is known behind an append, the old row lying in block g. -/
structure Grew (w w' : World) (base : Nat) (e : TypeId) (k g n m : Nat) (v' : Value) (xs news : List Value) : Prop where
  own : w'.ownsRow base e k v' (n + m) (xs ++ news)
  by_ : w.grownBy w' (some g)
  old : ∀ j u, xs[j]? = some u → w'.cell? ((⟨g, 0, none⟩ : Addr).add j) = some u
  blk : v'.ownBlock = some g ∨ v'.ownBlock = some w.heap.size
theorem run_grew (w : World) (E : ElemT P T e k z) (ty : TypeId) (base g n cap : Nat) (xs : List Value) (hown : w.ownsRow base e k (.slice (some ⟨g, 0, none⟩) n cap) n xs)
    (ad : Addr) (m c : Nat) (news : List Value) (hl : news.length = m * k) (hnews : ∀ j u, news[j]? = some u → w.cell? (ad.add j) = some u) (h1 : ∀ u ∈ news, u.oneCell' = true) (hlen : n + m ≤ 4000000) (hbase : base ≤ w.heap.size) :
    ∃ v' w', (Builtin.append_ #[T, T] ty #[.slice (some ⟨g, 0, none⟩) n cap, .slice (some ad) m c]).run P w = .ok v' w' ∧ Grew w w' base e k g n m v' xs news := by
  obtain ⟨i, b, hi, hz, hsz, hb, hb'⟩ := E.info
  have hbytes : (n + m) * i.bytes ≤ 140737488355328 := by rw [hb]; exact Nat.le_trans (Nat.mul_le_mul hlen hb') (by omega)
  obtain ⟨v', w', hr, ho, hg, _⟩ := run_append_own (P := P) w base T ty e i z k i.bytes E.under hi hz hsz rfl E.zsz E.pos _ n xs hown ad m c news hl hnews h1 (by unfold maxLen; omega) hbytes hbase
  have holds : ∀ j u, xs[j]? = some u → w.cell? ((⟨g, 0, none⟩ : Addr).add j) = some u := hown.cells (g := g) rfl
  refine ⟨v', w', hr, ho, hg, ?_, ?_⟩
  all_goals
    obtain ⟨hxl, h2⟩ := hown
    rcases h2 with ⟨h2, _⟩ | ⟨g', cap', cur, h', hbg, hgg, hnc, hcm, hcs, htake⟩
    · simp at h2
    simp only [Value.slice.injEq, Option.some.injEq, Addr.mk.injEq, and_true, true_and] at h'
    obtain ⟨rfl, rfl⟩ := h'
    by_cases hroom : n + m ≤ cap
    · have hfit : n * i.size + news.length ≤ cur.size := by rw [hl, hcs, hsz, ← Nat.add_mul]; exact Nat.mul_le_mul_right _ hroom
      have hr2 := run_append_room (P := P) w T ty e i E.under hi g n cap cur hgg ad m c news (by rw [hsz]; exact hl) hnews h1 hroom hfit
      rw [hr] at hr2
      injection hr2 with e1 e2
      subst e1 e2
      first
      | exact .inl rfl
      | intro j u hj
        have hjx : j < xs.length := (List.getElem?_eq_some_iff.1 hj).1
        have hcell : (⟨g, 0, none⟩ : Addr).add j = ⟨g, j, none⟩ := by
          unfold Addr.add
          by_cases h0 : j = 0
          · rw [if_pos h0, h0]
          · rw [if_neg h0, Nat.zero_add]
        rw [hcell, cell_of_row _ g j _ _ _ (setRow_heap w g cur _ e _ hgg)]
        rw [hsz, htake]
        simp only [List.getElem?_toArray, List.append_assoc]
        rw [List.getElem?_append_left hjx]
        exact hj
    · have hr2 := run_append_grow (P := P) w T ty e i z E.under hi hz ⟨g, 0, none⟩ n cap xs (by rw [hsz]; exact hxl) holds ad m c news (by rw [hsz]; exact hl) hnews (by omega) (by omega) (growslice_fits (by omega) hbytes)
      rw [hr] at hr2
      injection hr2 with e1 e2
      subst e1 e2
      first
      | exact .inr rfl
      | intro j u hj
        have hgl : g < w.heap.size := (Array.getElem?_eq_some_iff.1 hgg).1
        refine (World.cell?_of_block ?_).trans (holds j u hj)
        have hbk : ((⟨g, 0, none⟩ : Addr).add j).block = g := by unfold Addr.add; split <;> rfl
        rw [hbk]
        first | exact heap_alloc_old w.drew _ hgl | exact heap_alloc_old w.drew _ g hgl
theorem wpK1 {o : Oper} {a : Act} {K : Act → World → Prop} {Q : Exit → Act → World → Prop} {w : World} (E : ElemT P T e k z) (s x : Operand)
    (ho : o.op = .call { callee := .builtin .append, args := #[s, x], argTypes := #[T, T] })
    (base g n cap : Nat) (xs : List Value) (hs : a.eval s = .slice (some ⟨g, 0, none⟩) n cap) (hown : w.ownsRow base e k (.slice (some ⟨g, 0, none⟩) n cap) n xs) (ad : Addr) (m c : Nat) (news : List Value) (hx : a.eval x = .slice (some ad) m c)
    (hl : news.length = m * k) (hnews : ∀ j u, news[j]? = some u → w.cell? (ad.add j) = some u) (h1 : ∀ u ∈ news, u.oneCell' = true) (hlen : n + m ≤ 4000000) (hbase : base ≤ w.heap.size)
    (h : ∀ v' w', Grew w w' base e k g n m v' xs news → K (a.put o.dst v') w') : o.wp P a w K Q := by
  obtain ⟨v', w', hr, h2⟩ := run_grew (P := P) w E o.type base g n cap xs hown ad m c news hl hnews h1 hlen hbase
  unfold Oper.wp execOp
  simp only [ho, resolve, invoke, builtin, Sem.run_bind, Sem.run_pure, Result.andThen_ok, List.map_toArray, List.map_cons, List.map_nil, hs, hx, hr]
  exact h v' w' h2
end
end Go.ApdG

namespace Go.BytM
set_option linter.unusedVariables false
/-- A number in k bytes, the highest first. -/
def be : Nat → Nat → List UInt8
  | 0, _ => []
  | k + 1, n => be k (n / 256) ++ [UInt8.ofNat n]
theorem be_len : ∀ k n, (be k n).length = k
  | 0, _ => rfl
  | k + 1, n => by rw [be, List.length_append, be_len k]; rfl
theorem be_cons : ∀ k n, be (k + 1) n = UInt8.ofNat (n / 256 ^ k) :: be k n
  | 0, n => by simp [be]
  | k + 1, n => by
    rw [be, be_cons k (n / 256), be]
    simp [Nat.div_div_eq_div_mul, Nat.pow_succ, Nat.mul_comm]
/-- The bytes of a text. -/
def bl (s : ByteArray) : List UInt8 := s.data.toList
theorem bl_len (s : ByteArray) : (bl s).length = s.size := s.data.length_toList
theorem of_bl (s : ByteArray) : (⟨(bl s).toArray⟩ : ByteArray) = s := by simp [bl]
theorem bl_of (l : List UInt8) : bl ⟨l.toArray⟩ = l := by simp [bl]
theorem bl_inj {s t : ByteArray} (h : bl s = bl t) : s = t := by rw [← of_bl s, ← of_bl t, h]
theorem bl_append (s t : ByteArray) : bl (s ++ t) = bl s ++ bl t := by simp [bl, ByteArray.data_append]
end Go.BytM

namespace Go.AesM
open Go.RowKit
set_option linter.unusedVariables false
/-- A byte times two. -/
def xt (a : Nat) : Nat := if 255 < a * 2 then a * 2 ^^^ 283 else a * 2
/-- What is left of taking times. -/
def mulF : Nat → Nat → Nat → Nat → Nat
  | 0, _, _, o => o
  | f + 1, a, b, o => if b = 0 then o else mulF f (xt a) (b / 2) (if b % 2 = 1 then o ^^^ a else o)
/-- Two bytes taken times each other. -/
def mul (a b : Nat) : Nat := mulF 8 a b 0
theorem xt_lt (a : Nat) (h : a < 256) : xt a < 256 := by
  have : ∀ a : Fin 256, xt a.1 < 256 := by decide +kernel
  exact this ⟨a, h⟩
theorem xor_lt {a b : Nat} (ha : a < 256) (hb : b < 256) : a ^^^ b < 256 := Nat.xor_lt_two_pow (n := 8) ha hb
theorem mulF_lt : ∀ f a b o, a < 256 → o < 256 → mulF f a b o < 256
  | 0, _, _, _, _, ho => ho
  | f + 1, a, b, o, ha, ho => by
    unfold mulF
    split
    · exact ho
    · refine mulF_lt f _ _ _ (xt_lt a ha) ?_
      split
      · exact xor_lt ho ha
      · exact ho
theorem mul_lt {a b : Nat} (ha : a < 256) : mul a b < 256 := mulF_lt 8 a b 0 ha (by decide)
/-- n bytes as cells. -/
def rC (n : Nat) (f : Nat → Nat) : Array Value := ((List.range n).map fun i => Value.int .u8 (f i : Int)).toArray
theorem rC_size (n : Nat) (f : Nat → Nat) : (rC n f).size = n := by simp [rC]
theorem rC_get (n : Nat) (f : Nat → Nat) (i : Nat) (h : i < n) : (rC n f)[i]? = some (.int .u8 (f i : Int)) := by simp [rC, h]
theorem rC_congr {n : Nat} {f g : Nat → Nat} (h : ∀ i, i < n → f i = g i) : rC n f = rC n g := by
  unfold rC
  congr 1
  apply List.map_congr_left
  intro i hi
  rw [h i (List.mem_range.1 hi)]
theorem rC_set (n : Nat) (f : Nat → Nat) (k b : Nat) : (rC n f).setIfInBounds k (.int .u8 (b : Int)) = rC n (fun i => if i = k then b else f i) := by
  apply Array.ext
  · simp [rC]
  · intro i h1 h2
    by_cases h : k = i
    · subst h; simp [rC]
    · have : ¬ i = k := fun e => h e.symm
      rw [Array.getElem_setIfInBounds_ne (by simpa [rC] using h1) h]
      simp [rC, this]
theorem rC_one (n : Nat) (f : Nat → Nat) : (rC n f).all (·.oneCell') = true := by
  rw [Array.all_eq_true_iff_forall_mem]
  intro x hx
  simp [rC] at hx
  obtain ⟨i, _, rfl⟩ := hx
  rfl
/-- Bytes that lie in a block of their own. -/
def RB (w : World) (g n : Nat) (t : TypeId) (f : Nat → Nat) : Prop := w.heap[g]? = some (.cells (rC n f) t (0, 0))
section
variable {w w' : World} {g n : Nat} {t : TypeId} {f f' : Nat → Nat}
theorem RB.lt (h : RB w g n t f) : g < w.heap.size := (Array.getElem?_eq_some_iff.1 h).1
theorem RB.cell (h : RB w g n t f) (i : Nat) (hi : i < n) : w.cell? ⟨g, i, none⟩ = some (.int .u8 (f i : Int)) := by
  rw [cell_of_row w g i _ _ _ h, rC_get n f i hi]
theorem RB.frozen (h : RB w g n t f) (i : Nat) : w.frozen? ⟨g, i, none⟩ = false := frozen_of_row w g i _ _ h
theorem RB.set (h : RB w g n t f) (k b : Nat) : RB (w.setCell ⟨g, k, none⟩ (.int .u8 (b : Int))) g n t (fun i => if i = k then b else f i) := by
  unfold RB
  rw [heap_setCell_same w g k _ t _ h, rC_set]
theorem RB.other (h : RB w g n t f) (b o : Nat) (v : Value) (hb : b ≠ g) : RB (w.setCell ⟨b, o, none⟩ v) g n t f := by
  unfold RB
  rw [heap_setCell_other w ⟨b, o, none⟩ g v (Ne.symm hb)]; exact h
theorem RB.congr (h : RB w g n t f) (e : ∀ i, i < n → f i = f' i) : RB w g n t f' := by
  unfold RB; rw [← rC_congr e]; exact h
end
theorem RB.new (w : World) (n : Nat) (t : TypeId) (f : Nat → Nat) : RB (w.alloc (.cells (rC n f) t)) w.heap.size n t f := heap_alloc_new w _
end Go.AesM

namespace Go.RowQ
open Go.RowKit Go.LatT
set_option linter.unusedVariables false
section
variable {P : Program}
/-- A type whose values have many cells. -/
structure AggT (P : Program) (ty : TypeId) (n : Nat) : Prop where
  agg : ∀ w, (isAgg ty).run P w = .ok true w
  size : ∀ w, (sizeOf ty).run P w = .ok n w
theorem run_load_at {ty : TypeId} {n : Nat} (h : AggT P ty n) (w : World) (ad : Addr) (cs : Array Value) (hn : cs.size = n) (hc : ∀ j, j < n → w.cell? (ad.add j) = cs[j]?) : (loadVar ty ad).run P w = .ok (.agg cs) w := by
  have hl : (loadCells ad cs.toList.length).run P w = .ok cs.toList.toArray w :=
    run_loadCells_list (P := P) w ad cs.toList (fun j v hv => by
      have hj : j < n := by
        have := (List.getElem?_eq_some_iff.1 hv).1
        rw [Array.length_toList] at this; omega
      rw [hc j hj]; simpa using hv)
  simp only [Array.length_toList, Array.toArray_toList, hn] at hl
  simp [loadVar, Sem.run_bind, h.agg, h.size, hl]
theorem wp_load_at {o : Oper} {a : Act} {w : World} {K : Act → World → Prop} {Q : Exit → Act → World → Prop} {ty : TypeId} {n : Nat} (h : AggT P ty n) (x : Operand) (ho : o.op = .load ty x)
    (ad : Addr) (hx : a.eval x = .pointer (some ad)) (cs : Array Value) (hn : cs.size = n) (hc : ∀ j, j < n → w.cell? (ad.add j) = cs[j]?)
    (hk : K (a.put o.dst (.agg cs)) w) : o.wp P a w K Q := by
  unfold Oper.wp execOp
  simp only [ho, hx, Instr.loadAt, Instr.sureAddr, Sem.run_bind, Sem.run_pure, Result.andThen_ok, run_load_at h w ad cs hn hc]
  exact hk
theorem wpList_load_at {ops : Array Oper} {rest : List Oper} {o : Oper} {a : Act} {w : World} {Q : Exit → Act → World → Prop} {ty : TypeId} {n : Nat} (h : AggT P ty n) (hgd : o.guard = none) (x : Operand) (ho : o.op = .load ty x)
    (ad : Addr) (hx : a.eval x = .pointer (some ad)) (cs : Array Value) (hn : cs.size = n) (hc : ∀ j, j < n → w.cell? (ad.add j) = cs[j]?)
    (hk : wpList P ops Q rest (a.put o.dst (.agg cs)) w) : wpList P ops Q (o :: rest) a w :=
  wpList_plain hgd fun _ hK => wp_load_at h x ho ad hx cs hn hc (hK _ _ hk)
/-- The same in a region that draws, walked once. -/
theorem quiet_load_at {ops : Array Oper} {rest : List Oper} {o : Oper} {a : Act} {C : World → Prop} {Q : Act → Prop} {ty : TypeId} {n : Nat} (h : AggT P ty n) (hgd : o.guard = none) (x : Operand) (ho : o.op = .load ty x)
    (ad : Addr) (hx : a.eval x = .pointer (some ad)) (cs : Array Value) (hn : cs.size = n) (hc : ∀ w, C w → ∀ j, j < n → w.cell? (ad.add j) = cs[j]?)
    (hk : wpQuiet P ops C Q rest (a.put o.dst (.agg cs))) : wpQuiet P ops C Q (o :: rest) a := by
  have hw : Region.wanted o (yielded ops a.tmps) = true := by simp [Region.wanted, hgd]
  simp only [wpQuiet, hw, if_true]
  refine ⟨.agg cs, fun w hC => ?_, hk⟩
  unfold Oper.quietAt execOp
  simp only [ho, hx, Instr.loadAt, Instr.sureAddr, Sem.run_bind, Sem.run_pure, Result.andThen_ok, run_load_at h w ad cs hn (hc w hC)]
  exact ⟨rfl, rfl⟩
end
end Go.RowQ

namespace Go.RegE
open Go.RowKit Go.LatT
section
variable {P : Program} {ops : Array Oper} {md : Region.Mode} {C : Nat → World → Prop} {H N : Nat} {Post : FuncId → Array Value → Value → Prop} {own : Oper → Option Nat} {Sh : Obj → Prop}

/-- What was made anew, and lies there. -/
def Held (H : Nat) (w : World) (p : Nat × Obj) : Prop := H ≤ p.1 ∧ w.heap[p.1]? = some p.2
/-- Blocks from H on are as they were. -/
def Keep (H : Nat) (w w' : World) : Prop := ∀ g, H ≤ g → g < w.heap.size → w'.heap[g]? = w.heap[g]?
/-- What is asked of a callee. -/
def Contract (P : Program) (C : Nat → World → Prop) (H N : Nat) (Post : FuncId → Array Value → Value → Prop) (f : FuncId) (args : Array Value) : Prop :=
  ∀ n w, n < N → C n w → Calls P f args w fun e w'' => ∃ u, e = .returned u ∧ Post f args u ∧ C (n + 1) w'' ∧ Keep H w w''
/-- A block, laid anew in its place. -/
def wput (w : World) (g : Nat) (ob : Obj) : World := { w with heap := w.heap.setIfInBounds g ob }
def goodRun (P : Program) (C : Nat → World → Prop) (H N : Nat) (Post : FuncId → Array Value → Value → Prop) (Sh : Obj → Prop) (k : Option Nat) (w : World) : Result Next → Prop
  | .ok (.value _) w' => w' = w ∨ ∃ o, w' = w.alloc o
  | .ok .skip w' => match k with
    | none => w' = w
    | some g => ∃ ob, Sh ob ∧ w' = wput w g ob
  | .ok (.enter f args) w' => w' = w ∧ Contract P C H N Post f args
  | _ => False
def outRun (Post : FuncId → Array Value → Value → Prop) (k : Option Nat) (w : World) (v : Value) (add : List (Nat × Obj)) : Result Next → Prop
  | .ok (.value u) w' => v = u ∧ ((w' = w ∧ add = []) ∨ ∃ o, w' = w.alloc o ∧ add = [(w.heap.size, o)])
  | .ok .skip w' => v = undef ∧ match k with
    | none => w' = w ∧ add = []
    | some g => ∃ ob, w'.heap[g]? = some ob ∧ add = [(g, ob)]
  | .ok (.enter f args) _ => Post f args v ∧ add = []
  | _ => False
def Good (P : Program) (C : Nat → World → Prop) (H N : Nat) (Post : FuncId → Array Value → Value → Prop) (Sh : Obj → Prop) (k : Option Nat) (x : Sem Next) : Prop := ∀ n w, C n w → goodRun P C H N Post Sh k w (x.run P w)
def Out (P : Program) (C : Nat → World → Prop) (Post : FuncId → Array Value → Value → Prop) (k : Option Nat) (x : Sem Next) (v : Value) (add : List (Nat × Obj)) : Prop := ∃ n w, C n w ∧ outRun Post k w v add (x.run P w)
def GoodW (P : Program) (C : Nat → World → Prop) (H N : Nat) (Post : FuncId → Array Value → Value → Prop) (Sh : Obj → Prop) (own : Oper → Option Nat) (ops : Array Oper) (o : Oper) (a : Act) : Prop :=
  Region.wanted o (yielded ops a.tmps) = true → Good P C H N Post Sh (own o) (execOp a.eval o)
def OutW (P : Program) (C : Nat → World → Prop) (Post : FuncId → Array Value → Value → Prop) (own : Oper → Option Nat) (ops : Array Oper) (o : Oper) (a : Act) (v : Value) (add : List (Nat × Obj)) : Prop :=
  if Region.wanted o (yielded ops a.tmps) = true then Out P C Post (own o) (execOp a.eval o) v add else v = undef ∧ add = []

/-- The walk in the order of the text. -/
def wpE (P : Program) (C : Nat → World → Prop) (H N : Nat) (Post : FuncId → Array Value → Value → Prop) (Sh : Obj → Prop) (own : Oper → Option Nat) (ops : Array Oper) (T : List (Nat × Obj) → Act → Prop) : List Oper → List (Nat × Obj) → Act → Prop
  | [], gs, a => T gs a
  | o :: rest, gs, a => GoodW P C H N Post Sh own ops o a ∧ ∀ v add, OutW P C Post own ops o a v add → wpE P C H N Post Sh own ops T rest (add ++ gs) (a.put o.dst v)
/-- In whatever order. -/
def wpAnyE (P : Program) (md : Region.Mode) (C : Nat → World → Prop) (H N : Nat) (Post : FuncId → Array Value → Value → Prop) (Sh : Obj → Prop) (own : Oper → Option Nat) (ops : Array Oper) (T : List (Nat × Obj) → Act → Prop) : Nat → Array Bool → List (Nat × Obj) → Act → Prop
  | 0, listed, gs, a => Region.ready md ops listed = [] ∧ T gs a
  | f + 1, listed, gs, a => (Region.ready md ops listed = [] → T gs a) ∧ ∀ i ∈ Region.ready md ops listed, ∀ o, ops[i]? = some o →
      GoodW P C H N Post Sh own ops o a ∧ ∀ v add, OutW P C Post own ops o a v add → wpAnyE P md C H N Post Sh own ops T f (listed.setIfInBounds i true) (add ++ gs) (a.put o.dst v)

theorem wpAnyE_mono {T : List (Nat × Obj) → Act → Prop} (hT : ∀ gs gs' a, (∀ p ∈ gs, p ∈ gs') → T gs a → T gs' a) :
    ∀ (f : Nat) (listed : Array Bool) (gs gs' : List (Nat × Obj)) (a : Act), (∀ p ∈ gs, p ∈ gs') → wpAnyE P md C H N Post Sh own ops T f listed gs a → wpAnyE P md C H N Post Sh own ops T f listed gs' a
  | 0, _, _, _, _, hs, h => ⟨h.1, hT _ _ _ hs h.2⟩
  | f + 1, _, gs, gs', _, hs, h => ⟨fun h0 => hT _ _ _ hs (h.1 h0), fun i hi o ho => ⟨(h.2 i hi o ho).1, fun v add hv => wpAnyE_mono hT f _ (add ++ gs) (add ++ gs') _
      (fun p hp => by rcases List.mem_append.1 hp with h1 | h1; exact List.mem_append_left _ h1; exact List.mem_append_right _ (hs p h1)) ((h.2 i hi o ho).2 v add hv)⟩⟩

theorem out_some {k : Option Nat} {x : Sem Next} {n : Nat} {w : World} (hn : n < N) (hC : C n w) (hk : ∀ g, k = some g → g < w.heap.size) (hg : Good P C H N Post Sh k x) : ∃ v add, Out P C Post k x v add := by
  have h := hg n w hC
  cases hr : x.run P w with
  | halt y w' => rw [hr] at h; cases h
  | ok y w' =>
    rw [hr] at h
    cases y with
    | value u =>
      rcases h with h | ⟨o, h⟩
      · exact ⟨u, [], n, w, hC, by rw [hr]; exact ⟨rfl, .inl ⟨h, rfl⟩⟩⟩
      · exact ⟨u, _, n, w, hC, by rw [hr]; exact ⟨rfl, .inr ⟨o, h, rfl⟩⟩⟩
    | skip =>
      cases k with
      | none => exact ⟨undef, [], n, w, hC, by rw [hr]; exact ⟨rfl, h, rfl⟩⟩
      | some g =>
        obtain ⟨ob, _, h⟩ := h
        exact ⟨undef, [(g, ob)], n, w, hC, by rw [hr, h]; exact ⟨rfl, ob, by simp [wput, hk g rfl], rfl⟩⟩
    | enter f args =>
      obtain ⟨_, hc⟩ := h
      obtain ⟨e, w'', fr, ⟨u, _, hu, _⟩, _⟩ := hc n w hn hC []
      exact ⟨u, [], n, w, hC, by rw [hr]; exact ⟨hu, rfl⟩⟩
    | defer d => cases h
    | row r args => cases h
    | _ => cases h

theorem outW_some {o : Oper} {a : Act} {n : Nat} {w : World} (hn : n < N) (hC : C n w) (hk : ∀ g, own o = some g → g < w.heap.size) (hg : GoodW P C H N Post Sh own ops o a) : ∃ v add, OutW P C Post own ops o a v add := by
  unfold OutW
  by_cases hw : Region.wanted o (yielded ops a.tmps) = true
  · obtain ⟨v, add, h⟩ := out_some hn hC hk (hg hw)
    exact ⟨v, add, by rw [if_pos hw]; exact h⟩
  · exact ⟨undef, [], by rw [if_neg hw]; exact ⟨rfl, rfl⟩⟩

theorem goodW_put {o : Oper} {a : Act} {dst : Option Tmp} {v : Value} (hs : ∀ cs b, o.op ≠ .select cs b) (h : ∀ d, dst = some d → d ∉ o.looksAt ops) :
    GoodW P C H N Post Sh own ops o (a.put dst v) ↔ GoodW P C H N Post Sh own ops o a := by
  unfold GoodW; rw [execOp_put o hs a dst v h, wanted_put o a dst v h]
theorem outW_put {o : Oper} {a : Act} {dst : Option Tmp} {v u : Value} {add : List (Nat × Obj)} (hs : ∀ cs b, o.op ≠ .select cs b) (h : ∀ d, dst = some d → d ∉ o.looksAt ops) :
    OutW P C Post own ops o (a.put dst v) u add ↔ OutW P C Post own ops o a u add := by
  unfold OutW; rw [execOp_put o hs a dst v h, wanted_put o a dst v h]

theorem wpAnyE_first {T : List (Nat × Obj) → Act → Prop} (hT : ∀ gs gs' a, (∀ p ∈ gs, p ∈ gs') → T gs a → T gs' a) {n0 : Nat} {w0 : World} (hn0 : n0 < N) (hC0 : C n0 w0) (hk0 : ∀ (i : Nat) (x : Oper) (g : Nat), ops[i]? = some x → own x = some g → g < w0.heap.size)
    (hsel : ∀ (j : Nat) (o : Oper) cs b, ops[j]? = some o → o.op ≠ .select cs b) {i : Nat} {oi : Oper} (hi : ops[i]? = some oi) :
    ∀ (f : Nat) (listed : Array Bool) (gs : List (Nat × Obj)) (a : Act),
      (∀ (j : Nat) (oj : Oper), ops[j]? = some oj → j ≠ i → listed.getD j true = false → (∀ e ∈ oj.after, Region.binds md e = true → e.on ≠ i) → oi.apart ops oj = true) →
      i ∈ Region.ready md ops listed → GoodW P C H N Post Sh own ops oi a →
      (∀ v add, OutW P C Post own ops oi a v add → wpAnyE P md C H N Post Sh own ops T f (listed.setIfInBounds i true) (add ++ gs) (a.put oi.dst v)) →
      wpAnyE P md C H N Post Sh own ops T (f + 1) listed gs a := by
  intro f
  induction f with
  | zero =>
    intro listed gs a hfree hr hg hrest
    refine ⟨fun h0 => (by rw [h0] at hr; cases hr), fun k hk ok hok => ?_⟩
    by_cases hki : k = i
    · subst hki
      have : ok = oi := Option.some.inj (hok.symm.trans hi)
      subst this; exact ⟨hg, hrest⟩
    · obtain ⟨v0, add0, hv0⟩ := outW_some hn0 hC0 (fun g => hk0 i oi g hi) hg
      have hx := (hrest v0 add0 hv0).1
      have := ready_mono hk hki
      rw [hx] at this; cases this
  | succ f ih =>
    intro listed gs a hfree hr hg hrest
    refine ⟨fun h0 => (by rw [h0] at hr; cases hr), fun k hk ok hok => ?_⟩
    by_cases hki : k = i
    · subst hki
      have : ok = oi := Option.some.inj (hok.symm.trans hi)
      subst this; exact ⟨hg, hrest⟩
    · obtain ⟨hun, ok', hok', hall⟩ := mem_ready.1 hk
      have : ok' = ok := Option.some.inj (hok'.symm.trans hok)
      subst this
      have hiun : listed.getD i true = false := (mem_ready.1 hr).1
      have hap := hfree k ok' hok hki hun (fun e he hb hon => by
        have h2 := hall e he hb
        rw [hon] at h2
        rcases Nat.lt_or_ge i listed.size with h' | h'
        · simp [h'] at h2 hiun; rw [hiun] at h2; cases h2
        · simp [Array.getElem?_eq_none h'] at h2)
      obtain ⟨h1, h2, h3⟩ := Oper.apart_spec hap
      have sk := fun cs b => hsel k ok' cs b hok
      have si := fun cs b => hsel i oi cs b hi
      obtain ⟨v0, add0, hv0⟩ := outW_some hn0 hC0 (fun g => hk0 i oi g hi) hg
      have hx := (hrest v0 add0 hv0).2 k (ready_mono hk hki) ok' hok
      refine ⟨(goodW_put sk h1).1 hx.1, fun u addk hu => ?_⟩
      refine ih (listed.setIfInBounds k true) (addk ++ gs) (a.put ok'.dst u) (fun j oj hj hne hunj hno => ?_) (ready_mono hr (Ne.symm hki)) ((goodW_put si h3).2 hg) (fun v add hv => ?_)
      · by_cases hkj : k = j
        · subst hkj
          have : oj = ok' := Option.some.inj (hj.symm.trans hok)
          subst this; exact hap
        · exact hfree j oj hj hne (by rw [getD_set_ne true hkj] at hunj; exact hunj) hno
      · have hv' := (outW_put si h3).1 hv
        have hy := ((hrest v add hv').2 k (ready_mono hk hki) ok' hok).2 u addk ((outW_put sk h1).2 hu)
        rw [Array.setIfInBounds_comm _ _ hki, ← Act.put_comm a v u h2]
        refine wpAnyE_mono hT f _ _ _ _ (fun p hp => ?_) hy
        simp only [List.mem_append] at hp ⊢
        rcases hp with h | h | h
        · exact .inr (.inl h)
        · exact .inl h
        · exact .inr (.inr h)

theorem wpAnyE_lex {T : List (Nat × Obj) → Act → Prop} (hT : ∀ gs gs' a, (∀ p ∈ gs, p ∈ gs') → T gs a → T gs' a) {n0 : Nat} {w0 : World} (hn0 : n0 < N) (hC0 : C n0 w0) (hk0 : ∀ (i : Nat) (x : Oper) (g : Nat), ops[i]? = some x → own x = some g → g < w0.heap.size) (hs : Region.noSelect ops = true) :
    ∀ (l : List Oper) (k : Nat) (listed : Array Bool) (gs : List (Nat × Obj)) (a : Act), (∀ j, l[j]? = ops[k + j]?) →
    Region.lexFrom md ops l.length k listed = true → wpE P C H N Post Sh own ops T l gs a → wpAnyE P md C H N Post Sh own ops T l.length listed gs a
  | [], _, _, _, _, _, hB, h => ⟨by simpa [Region.lexFrom] using hB, h⟩
  | o :: l, k, listed, gs, a, hl, hB, h => by
    have h0 : ops[k]? = some o := by simpa using (hl 0).symm
    simp only [List.length_cons, Region.lexFrom, Bool.and_eq_true] at hB
    obtain ⟨⟨hr, hf⟩, hB'⟩ := hB
    exact wpAnyE_first hT hn0 hC0 hk0 (Region.noSelect_spec hs) h0 l.length listed gs a (Region.free_spec h0 hf) (by simpa using hr) h.1
      (fun v add hv => wpAnyE_lex hT hn0 hC0 hk0 hs l (k + 1) _ _ _ (fun j => by have := hl (j + 1); simpa [Nat.add_assoc, Nat.add_comm 1 j] using this) hB' (h.2 v add hv))

theorem held_alloc {w : World} {p : Nat × Obj} (o : Obj) (h : Held H w p) : Held H (w.alloc o) p := by
  refine ⟨h.1, ?_⟩
  have hlt : p.1 < w.heap.size := (Array.getElem?_eq_some_iff.1 h.2).1
  rw [Below.heap_alloc _ _ _ hlt]; exact h.2
theorem held_new {w : World} (o : Obj) (h : H ≤ w.heap.size) : Held H (w.alloc o) (w.heap.size, o) := by
  refine ⟨h, ?_⟩
  show (w.heap.push o)[w.heap.size]? = some o
  simp
theorem held_keep {w w' : World} {p : Nat × Obj} (k : Keep H w w') (h : Held H w p) : Held H w' p := by
  refine ⟨h.1, ?_⟩
  rw [k p.1 h.1 (Array.getElem?_eq_some_iff.1 h.2).1]; exact h.2

theorem wput_size (w : World) (g : Nat) (ob : Obj) : (wput w g ob).heap.size = w.heap.size := by simp [wput]
theorem held_wput {w : World} {p : Nat × Obj} {g : Nat} (ob : Obj) (hne : p.1 ≠ g) (h : Held H w p) : Held H (wput w g ob) p := by
  refine ⟨h.1, ?_⟩
  show (w.heap.setIfInBounds g ob)[p.1]? = some p.2
  rw [Array.getElem?_setIfInBounds_ne (Ne.symm hne)]; exact h.2
theorem held_put {w : World} {g : Nat} (ob : Obj) (h : H ≤ g) (hg : g < w.heap.size) : Held H (wput w g ob) (g, ob) := by
  refine ⟨h, ?_⟩
  show (w.heap.setIfInBounds g ob)[g]? = some ob
  simp [hg]
/-- Which blocks may lie among what was made: new ones, and those of operations that came up. -/
def Tell (own : Oper → Option Nat) (ops : Array Oper) (M : Nat) (listed : Array Bool) (gs : List (Nat × Obj)) : Prop :=
  ∀ p ∈ gs, M ≤ p.1 ∨ ∃ (i : Nat) (o : Oper), ops[i]? = some o ∧ own o = some p.1 ∧ listed.getD i true = true
/-- One operation of the real region, by what the walk says of it. -/
theorem wpOp_of_E {Q' : Exit → Act → World → Prop} {K : Act → World → Prop} {i : Nat} {o : Oper} {a : Act} {w : World} {m : Nat} {gs : List (Nat × Obj)} {R : List (Nat × Obj) → Act → Prop}
    (hCa : ∀ n w o, C n w → C n (w.alloc o)) (hCH : ∀ n w, C n w → H ≤ w.heap.size) {M : Nat} (hCM : ∀ n w, C n w → M ≤ w.heap.size) {listed : Array Bool} (hls : listed.size = ops.size)
    (hown : ∀ (i j : Nat) (x y : Oper) (g : Nat), ops[i]? = some x → ops[j]? = some y → own x = some g → own y = some g → i = j)
    (hCp : ∀ (i : Nat) (x : Oper) (g : Nat), ops[i]? = some x → own x = some g → H ≤ g ∧ g < M ∧ ∀ n w ob, Sh ob → C n w → C n (wput w g ob)) (hun : listed.getD i true = false)
    (hi : ops[i]? = some o) (hC : C m w) (hm : m < N) (hh : ∀ p ∈ gs, Held H w p) (ht : Tell own ops M listed gs)
    (hg : GoodW P C H N Post Sh own ops o a) (hR : ∀ v add, OutW P C Post own ops o a v add → R (add ++ gs) (a.put o.dst v))
    (hK : ∀ gs' a' w' m', m' ≤ m + 1 → C m' w' → (∀ p ∈ gs', Held H w' p) → Tell own ops M (listed.setIfInBounds i true) gs' → R gs' a' → K a' w') : wpOp P ops Q' i K a w := by
  have hlt : i < listed.size := by rw [hls]; exact (Array.getElem?_eq_some_iff.1 hi).1
  have ht' : Tell own ops M (listed.setIfInBounds i true) gs := by
    intro p hp
    rcases ht p hp with h | ⟨j, x, hj, hx, hl⟩
    · exact .inl h
    · refine .inr ⟨j, x, hj, hx, ?_⟩
      by_cases hij : i = j
      · subst hij; simp [hlt]
      · rw [getD_set_ne true hij]; exact hl
  unfold wpOp
  rw [hi]
  by_cases hw : Region.wanted o (yielded ops a.tmps) = true
  · simp only [hw, if_true]
    left
    have h := hg hw m w hC
    have hR' : ∀ v add, Out P C Post (own o) (execOp a.eval o) v add → R (add ++ gs) (a.put o.dst v) := fun v add hv => hR v add (by unfold OutW; rw [if_pos hw]; exact hv)
    unfold Oper.wp
    cases hr : (execOp a.eval o).run P w with
    | halt y w' => rw [hr] at h; cases h
    | ok y w' =>
      rw [hr] at h
      cases y with
      | value u =>
        rcases h with h | ⟨ob, h⟩
        · subst h
          exact hK gs _ _ m (by omega) hC hh ht' (hR' u [] ⟨m, _, hC, by rw [hr]; exact ⟨rfl, .inl ⟨rfl, rfl⟩⟩⟩)
        · subst h
          refine hK _ _ _ m (by omega) (hCa m w ob hC) ?_ (fun p hp => ?_) (hR' u [(w.heap.size, ob)] ⟨m, w, hC, by rw [hr]; exact ⟨rfl, .inr ⟨ob, rfl, rfl⟩⟩⟩)
          intro p hp
          rcases List.mem_append.1 hp with h1 | h1
          · have : p = (w.heap.size, ob) := by simpa using h1
            subst this; exact held_new ob (hCH m w hC)
          · exact held_alloc ob (hh p h1)
          · rcases List.mem_append.1 hp with h1 | h1
            · have : p = (w.heap.size, ob) := by simpa using h1
              subst this; exact .inl (hCM m w hC)
            · exact ht' p h1
      | skip =>
        cases hk : own o with
        | none =>
          rw [hk] at h
          have h' : w' = w := h
          subst h'
          exact hK gs _ _ m (by omega) hC hh ht' (hR' undef [] ⟨m, _, hC, by rw [hr, hk]; exact ⟨rfl, rfl, rfl⟩⟩)
        | some g =>
          rw [hk] at h
          obtain ⟨ob, hsh, h'⟩ := h
          subst h'
          obtain ⟨hg1, hg2, hg3⟩ := hCp i o g hi hk
          have hgs : g < w.heap.size := by have := hCM m w hC; omega
          refine hK _ _ _ m (by omega) (hg3 m w ob hsh hC) (fun p hp => ?_) (fun p hp => ?_) (hR' undef [(g, ob)] ⟨m, w, hC, by rw [hr, hk]; exact ⟨rfl, ob, by simp [wput, hgs], rfl⟩⟩)
          · rcases List.mem_append.1 hp with h1 | h1
            · have : p = (g, ob) := by simpa using h1
              subst this; exact held_put ob hg1 (by have := hCM m w hC; omega)
            · refine held_wput ob (fun e => ?_) (hh p h1)
              rcases ht p h1 with h2 | ⟨j, x, hj, hx, hl⟩
              · omega
              · have : i = j := hown i j o x g hi hj hk (by rw [hx, e])
                subst this
                rw [hun] at hl; cases hl
          · rcases List.mem_append.1 hp with h1 | h1
            · have : p = (g, ob) := by simpa using h1
              subst this; exact .inr ⟨i, o, hi, hk, by simp [hlt]⟩
            · exact ht' p h1
      | enter f args =>
        obtain ⟨h', hc⟩ := h
        subst h'
        refine (hc m _ hm hC).mono ?_
        rintro e w'' ⟨u, rfl, hu, hC', hk⟩
        exact hK gs _ _ (m + 1) (Nat.le_refl _) hC' (fun p hp => held_keep hk (hh p hp)) ht' (hR' u [] ⟨m, _, hC, by rw [hr]; exact ⟨hu, rfl⟩⟩)
      | defer d => cases h
      | row r args => cases h
      | _ => cases h
  · simp only [hw]
    exact hK gs _ _ m (by omega) hC hh ht' (hR undef [] (by unfold OutW; rw [if_neg hw]; exact ⟨rfl, rfl⟩))

/-- The whole region in whatever order, nothing of it set apart. -/
theorem wpAny_of_E0 (hCa : ∀ n w o, C n w → C n (w.alloc o)) (hCH : ∀ n w, C n w → H ≤ w.heap.size) {M : Nat} (hCM : ∀ n w, C n w → M ≤ w.heap.size)
    (hown : ∀ (i j : Nat) (x y : Oper) (g : Nat), ops[i]? = some x → ops[j]? = some y → own x = some g → own y = some g → i = j)
    (hCp : ∀ (i : Nat) (x : Oper) (g : Nat), ops[i]? = some x → own x = some g → H ≤ g ∧ g < M ∧ ∀ n w ob, Sh ob → C n w → C n (wput w g ob)) {T : List (Nat × Obj) → Act → Prop}
    {Q' : Exit → Act → World → Prop} (hQ : ∀ gs a w m, C m w → (∀ p ∈ gs, Held H w p) → T gs a → Q' .normal a w) :
    ∀ (fuel : Nat) (listed : Array Bool) (gs : List (Nat × Obj)) (a : Act) (w : World) (m : Nat), listed.size = ops.size → C m w → m + fuel ≤ N → (∀ p ∈ gs, Held H w p) → Tell own ops M listed gs →
      wpAnyE P md C H N Post Sh own ops T fuel listed gs a → wpAny P md ops Q' fuel listed a w
  | 0, _, gs, a, w, m, _, hC, _, hh, _, h => ⟨h.1, hQ gs a w m hC hh h.2⟩
  | fuel + 1, listed, gs, a, w, m, hls, hC, hm, hh, ht, h => by
    refine ⟨fun h0 => hQ gs a w m hC hh (h.1 h0), fun i hi => ?_⟩
    obtain ⟨hiun, oi, hoi, _⟩ := mem_ready.1 hi
    have h2 := h.2 i hi oi hoi
    refine wpOp_of_E hCa hCH hCM hls hown hCp hiun hoi hC (by omega) hh ht h2.1 (R := fun gs' a' => wpAnyE P md C H N Post Sh own ops T fuel (listed.setIfInBounds i true) gs' a') h2.2 (fun gs' a' w' m' hm' hC' hh' ht' hR' => ?_)
    exact wpAny_of_E0 hCa hCH hCM hown hCp hQ fuel _ gs' a' w' m' (by simp [hls]) hC' (by omega) hh' ht' hR'
/-- No two operations own one block. -/
def ownB (own : Oper → Option Nat) (l : List Oper) : Prop := ∀ (i j : Nat) (x y : Oper) (g : Nat), l[i]? = some x → l[j]? = some y → own x = some g → own y = some g → i = j
/-- A region that draws its order, with stores into blocks that it owns: one walk, in the text's order. -/
theorem wp_region_E0 {id : Nat} {Q : Exit → Act → World → Prop} {a : Act} {wn : World} {l : List Oper} (C : Nat → World → Prop) (H M : Nat) (Post : FuncId → Array Value → Value → Prop) (Sh : Obj → Prop) (own : Oper → Option Nat)
    (hm : P.follows .mixedOrders = true) (hB : Region.lexB .any l.toArray = true) (hl : 0 < l.length)
    (hC0 : C 0 wn.drew) (hCa : ∀ n w o, C n w → C n (w.alloc o)) (hCH : ∀ n w, C n w → H ≤ w.heap.size) (hCM : ∀ n w, C n w → M ≤ w.heap.size)
    (hown : ownB own l) (hCp : ∀ x ∈ l, ∀ g, own x = some g → H ≤ g ∧ g < M ∧ ∀ n w ob, Sh ob → C n w → C n (wput w g ob))
    (h : wpE P C H l.length Post Sh own l.toArray (fun gs a' => ∀ m w, C m w → (∀ p ∈ gs, Held H w p) → Q .normal a' w) l [] a) : (Code.region id l.toArray true).wp P Q a wn := by
  simp only [Region.lexB, Bool.and_eq_true] at hB
  have hTm : ∀ (gs gs' : List (Nat × Obj)) (a : Act), (∀ p ∈ gs, p ∈ gs') → (∀ m w, C m w → (∀ p ∈ gs, Held H w p) → Q .normal a w) → (∀ m w, C m w → (∀ p ∈ gs', Held H w p) → Q .normal a w) :=
    fun gs gs' a hs h m w hC hh => h m w hC (fun p hp => hh p (hs p hp))
  have hp' : ∀ (i : Nat) (x : Oper) (g : Nat), l.toArray[i]? = some x → own x = some g → H ≤ g ∧ g < M ∧ ∀ n w ob, Sh ob → C n w → C n (wput w g ob) := fun i x g hx ho => by
    have hx' : l[i]? = some x := by simpa using hx
    exact hCp x (List.mem_of_getElem? hx') g ho
  have h3 := wpAnyE_lex (md := .any) hTm (n0 := 0) (N := l.length) hl hC0 (fun i x g hx ho => by have := hCM 0 _ hC0; have := (hp' i x g hx ho).2.1; omega) hB.1 l 0 (Array.replicate l.toArray.size false) [] a (by simp) (by simpa using hB.2) h
  refine wp_region_any hm ?_
  have := wpAny_of_E0 (md := .any) (N := l.length) hCa hCH hCM (fun i j x y g hx hy => hown i j x y g (by simpa using hx) (by simpa using hy)) hp' (fun gs a w m hC hh hT => hT m w hC hh)
    l.length (Array.replicate l.toArray.size false) [] a { wn with drawn := wn.drawn + 1 } 0 (by simp) hC0 (by simp) (by simp) (fun p hp => by cases hp) h3
  simpa using this

/-- A world of the class. -/
structure LatC (C : Nat → World → Prop) where
  n : Nat
  x : World
  h : C n x
/-- Operations that never enter a function. -/
def plainB : Op → Bool
  | .move _ | .assign _ | .pick _ _ _ | .build _ _ | .load _ _ | .binOp _ _ _ _ _ | .unOp _ _ _ | .convert _ _ _ | .fieldAddr _ _ _ | .field _ _ _ | .indexAddr _ _ _ | .index _ _ _ | .slice _ _ _ _ _ | .extract _ _ => true
  | _ => false
theorem value_not {α : Type} {s : Sem α} {g : α → Value} (w w' : World) (f : FuncId) (args : Array Value) : Sem.run P (s >>= fun x => pure (Next.value (g x))) w ≠ .ok (.enter f args) w' := by
  rw [Sem.run_bind]
  intro h
  cases hs : s.run P w with
  | ok x w1 =>
    rw [hs] at h
    have h2 : (Result.ok (Next.value (g x)) w1 : Result Next) = .ok (.enter f args) w' := h
    cases h2
  | halt x w1 => rw [hs] at h; cases h
theorem plain_not {o : Oper} (hp : plainB o.op = true) (ρ : Operand → Value) (w w' : World) (f : FuncId) (args : Array Value) : (execOp ρ o).run P w ≠ .ok (.enter f args) w' := by
  unfold execOp
  cases ho : o.op <;> rw [ho] at hp <;> first | (simp [plainB] at hp; done) | exact value_not (g := id) w w' f args | exact value_not w w' f args | (intro h; cases h; done) | skip

section
variable {T : List (Nat × Obj) → Act → Prop} {o : Oper} {rest : List Oper} {gs : List (Nat × Obj)} {a : Act}
theorem alloc_ne (w : World) (ob : Obj) : w.alloc ob ≠ w := by
  intro h
  have := congrArg (fun x : World => x.heap.size) h
  simp at this
/-- One operation that only reads, by the walk of quiet regions. -/
theorem wpE_one (hp : plainB o.op = true) (hk : own o = none) (h : wpQuiet P ops (fun w' => ∃ l : LatC C, w' = l.x) (fun a' => wpE P C H N Post Sh own ops T rest gs a') [o] a) : wpE P C H N Post Sh own ops T (o :: rest) gs a := by
  simp only [wpQuiet] at h
  by_cases hw : Region.wanted o (yielded ops a.tmps) = true
  · simp only [hw, if_true] at h
    obtain ⟨v, h1, h2⟩ := h
    refine ⟨fun _ n w hC => ?_, fun u add hu => ?_⟩
    · have h3 := h1 w ⟨⟨n, w, hC⟩, rfl⟩
      unfold Oper.quietAt at h3
      cases hr : (execOp a.eval o).run P w with
      | halt y w' => rw [hr] at h3; cases h3
      | ok y w' =>
        rw [hr] at h3
        cases y with
        | value x => exact .inl h3.1
        | skip => rw [hk]; exact h3.1
        | enter f args => exact absurd hr (plain_not hp _ _ _ _ _)
        | defer d => cases h3
        | row r args => cases h3
        | _ => cases h3
    · unfold OutW at hu
      rw [if_pos hw] at hu
      obtain ⟨n, w, hC, hu⟩ := hu
      have h3 := h1 w ⟨⟨n, w, hC⟩, rfl⟩
      unfold Oper.quietAt at h3
      cases hr : (execOp a.eval o).run P w with
      | halt y w' => rw [hr] at h3; cases h3
      | ok y w' =>
        rw [hr] at h3 hu
        cases y with
        | value x =>
          obtain ⟨e1, e2⟩ := h3
          obtain ⟨e3, ⟨_, e4⟩ | ⟨ob, e4, _⟩⟩ := hu
          · rw [e3, e4, e2]; exact h2
          · exact absurd (e4.symm.trans e1) (alloc_ne w ob)
        | skip =>
          obtain ⟨e1, e2⟩ := h3
          rw [hk] at hu
          obtain ⟨e3, _, e4⟩ := hu
          rw [e3, e4, ← e2]; exact h2
        | enter f args => exact absurd hr (plain_not hp _ _ _ _ _)
        | defer d => cases h3
        | row r args => cases h3
        | _ => cases h3
  · simp only [hw] at h
    refine ⟨fun h' => absurd h' hw, fun u add hu => ?_⟩
    unfold OutW at hu
    rw [if_neg hw] at hu
    rw [hu.1, hu.2]; exact h
/-- A call, by its contract. -/
theorem wpE_call {f : FuncId} {args : Array Value} (hw : Region.wanted o (yielded ops a.tmps) = true) (hrun : ∀ w, (execOp a.eval o).run P w = .ok (.enter f args) w)
    (hc : Contract P C H N Post f args) (h : ∀ u, Post f args u → wpE P C H N Post Sh own ops T rest gs (a.put o.dst u)) : wpE P C H N Post Sh own ops T (o :: rest) gs a := by
  refine ⟨fun _ n w hC => by rw [hrun]; exact ⟨rfl, hc⟩, fun u add hu => ?_⟩
  unfold OutW at hu
  rw [if_pos hw] at hu
  obtain ⟨n, w, hC, hu⟩ := hu
  rw [hrun] at hu
  rw [hu.2]; exact h u hu.1
/-- What makes a block anew. -/
theorem wpE_new {mk : Nat → Value} {ob : Obj} (hw : Region.wanted o (yielded ops a.tmps) = true) (hCH : ∀ n w, C n w → H ≤ w.heap.size) (hrun : ∀ w, (execOp a.eval o).run P w = .ok (.value (mk w.heap.size)) (w.alloc ob))
    (h : ∀ g, H ≤ g → wpE P C H N Post Sh own ops T rest ((g, ob) :: gs) (a.put o.dst (mk g))) : wpE P C H N Post Sh own ops T (o :: rest) gs a := by
  refine ⟨fun _ n w hC => by rw [hrun]; exact .inr ⟨ob, rfl⟩, fun u add hu => ?_⟩
  unfold OutW at hu
  rw [if_pos hw] at hu
  obtain ⟨n, w, hC, hu⟩ := hu
  rw [hrun] at hu
  obtain ⟨e3, ⟨e4, _⟩ | ⟨ob', e4, e5⟩⟩ := hu
  · exact absurd e4 (alloc_ne w ob)
  · have : ob' = ob := by
      have h2 := congrArg (fun x : World => x.heap[w.heap.size]?) e4
      have h3 : ∀ q : Obj, (w.alloc q).heap[w.heap.size]? = some q := fun q => by
        show (w.heap.push q)[w.heap.size]? = some q
        simp
      simp only [h3] at h2
      exact (Option.some.inj h2).symm
    rw [e3, e5, this]
    exact h _ (hCH n w hC)
/-- A store into a block that the operation owns. -/
theorem wpE_poke {g : Nat} {ob : Obj} (hw : Region.wanted o (yielded ops a.tmps) = true) (hk : own o = some g) (hsh : Sh ob) (hg : ∀ n w, C n w → g < w.heap.size) (hrun : ∀ n w, C n w → (execOp a.eval o).run P w = .ok .skip (wput w g ob))
    (h : wpE P C H N Post Sh own ops T rest ((g, ob) :: gs) (a.put o.dst undef)) : wpE P C H N Post Sh own ops T (o :: rest) gs a := by
  refine ⟨fun _ n w hC => by rw [hrun n w hC, hk]; exact ⟨ob, hsh, rfl⟩, fun u add hu => ?_⟩
  unfold OutW at hu
  rw [if_pos hw] at hu
  obtain ⟨n, w, hC, hu⟩ := hu
  rw [hrun n w hC, hk] at hu
  obtain ⟨e1, ob', e2, e3⟩ := hu
  have : (wput w g ob).heap[g]? = some ob := by simp [wput, hg n w hC]
  rw [this] at e2
  rw [e1, e3, ← Option.some.inj e2]; exact h
theorem wpE_nil (h : T gs a) : wpE P C H N Post Sh own ops T [] gs a := h
end

/-- A block of cells, read. -/
theorem held_cell {H : Nat} {w : World} {g : Nat} {vs : Array Value} {t : TypeId} (h : Held H w (g, .cells vs t)) (i : Nat) (hi : i < vs.size) : w.cell? ⟨g, i, none⟩ = some vs[i] := by
  have h2 : w.heap[g]? = some (.cells vs t) := h.2
  unfold World.cell?
  simp [h2, hi]
/-- Which slot's pointer a store goes through, of those that are owned. -/
def keyOf (ts : List Nat) (o : Oper) : Option Nat := match o.op with
  | .store _ (.tmp t) _ => if ts.contains t then some t else none
  | _ => none
def keyB (ts : List Nat) (l : List Oper) : Bool := (List.range l.length).all fun i => (List.range l.length).all fun j => match l[i]?, l[j]? with
  | some x, some y => (keyOf ts x).isNone || !(keyOf ts x == keyOf ts y) || i == j
  | _, _ => true
def ownBy (ts : List Nat) (blk : Nat → Nat) (o : Oper) : Option Nat := (keyOf ts o).map blk
theorem keyOf_mem {ts : List Nat} {o : Oper} {t : Nat} (h : keyOf ts o = some t) : t ∈ ts := by
  unfold keyOf at h
  split at h
  · split at h
    · rename_i hc; simp at h; subst h; simpa using hc
    · cases h
  · cases h
theorem ownB_of_key {ts : List Nat} {blk : Nat → Nat} {l : List Oper} (hB : keyB ts l = true) (hinj : ∀ t ∈ ts, ∀ t' ∈ ts, blk t = blk t' → t = t') : ownB (ownBy ts blk) l := by
  intro i j x y g hx hy hox hoy
  unfold ownBy at hox hoy
  cases kx : keyOf ts x with
  | none => rw [kx] at hox; cases hox
  | some t =>
    cases ky : keyOf ts y with
    | none => rw [ky] at hoy; cases hoy
    | some t' =>
      rw [kx] at hox; rw [ky] at hoy
      simp at hox hoy
      have ht : t = t' := hinj t (keyOf_mem kx) t' (keyOf_mem ky) (by rw [hox, hoy])
      have hi : i < l.length := (List.getElem?_eq_some_iff.1 hx).1
      have hj : j < l.length := (List.getElem?_eq_some_iff.1 hy).1
      have h1 := List.all_eq_true.1 hB i (List.mem_range.2 hi)
      have h2 := List.all_eq_true.1 h1 j (List.mem_range.2 hj)
      simp only [hx, hy, kx, ky, ht] at h2
      simpa using h2
theorem ownBy_mem {ts : List Nat} {blk : Nat → Nat} {o : Oper} {g : Nat} (h : ownBy ts blk o = some g) : ∃ t ∈ ts, blk t = g := by
  unfold ownBy at h
  cases k : keyOf ts o with
  | none => rw [k] at h; cases h
  | some t => rw [k] at h; exact ⟨t, keyOf_mem k, by simpa using h⟩
/-- The class where below B all is as it was, some blocks are known, and some are owned pairs of cells. -/
structure Cls (w0 : World) (B : Nat) (known : List (Nat × Obj)) (rs : List Nat) (t : TypeId) (_n : Nat) (w : World) : Prop where
  below : Below B w0 w
  known : ∀ p ∈ known, w.heap[p.1]? = some p.2
  pair : ∀ r ∈ rs, ∃ x0 x1, w.heap[r]? = some (.cells #[x0, x1] t)
def pairSh (t : TypeId) (ob : Obj) : Prop := ∃ x0 x1, ob = .cells #[x0, x1] t
theorem Cls.later {w0 w w' : World} {B : Nat} {known : List (Nat × Obj)} {rs : List Nat} {t : TypeId} {n m : Nat} (h : Cls w0 B known rs t n w) (hB : B ≤ w.heap.size) (hb : Below w.heap.size w w') : Cls w0 B known rs t m w' :=
  ⟨h.below.trans (hb.mono hB), fun p hp => by rw [hb.block _ (Array.getElem?_eq_some_iff.1 (h.known p hp)).1]; exact h.known p hp,
    fun r hr => by obtain ⟨x0, x1, hx⟩ := h.pair r hr; exact ⟨x0, x1, by rw [hb.block _ (Array.getElem?_eq_some_iff.1 hx).1]; exact hx⟩⟩
theorem Cls.alloc {w0 : World} {B : Nat} {known : List (Nat × Obj)} {rs : List Nat} {t : TypeId} (hB : ∀ n w, Cls w0 B known rs t n w → B ≤ w.heap.size) : ∀ n w o, Cls w0 B known rs t n w → Cls w0 B known rs t n (w.alloc o) :=
  fun n w o h => h.later (hB n w h) (below_box w o)
theorem Cls.size {w0 : World} {B : Nat} {known : List (Nat × Obj)} {rs : List Nat} {t : TypeId} (hB : B ≤ w0.heap.size) : ∀ n w, Cls w0 B known rs t n w → B ≤ w.heap.size := fun _ _ h => Nat.le_trans hB h.below.size
theorem Cls.put {w0 : World} {B : Nat} {known : List (Nat × Obj)} {rs : List Nat} {t : TypeId} {g : Nat} (hg : B ≤ g) (hk : ∀ p ∈ known, p.1 ≠ g) : ∀ n w ob, pairSh t ob → Cls w0 B known rs t n w → Cls w0 B known rs t n (wput w g ob) := by
  intro n w ob ⟨x0, x1, hob⟩ h
  refine ⟨⟨h.below.os, h.below.tape, h.below.output, by rw [wput_size]; exact h.below.size, fun k hk' => ?_⟩, fun p hp => ?_, fun r hr => ?_⟩
  · show (w.heap.setIfInBounds g ob)[k]? = _
    rw [Array.getElem?_setIfInBounds_ne (by omega)]; exact h.below.block k hk'
  · show (w.heap.setIfInBounds g ob)[p.1]? = _
    rw [Array.getElem?_setIfInBounds_ne (Ne.symm (hk p hp))]; exact h.known p hp
  · by_cases hgr : g = r
    · subst hgr
      obtain ⟨y0, y1, hy⟩ := h.pair g hr
      have hlt := (Array.getElem?_eq_some_iff.1 hy).1
      exact ⟨x0, x1, by show (w.heap.setIfInBounds g ob)[g]? = _; rw [Array.getElem?_setIfInBounds_self_of_lt hlt, hob]⟩
    · obtain ⟨y0, y1, hy⟩ := h.pair r hr
      exact ⟨y0, y1, by show (w.heap.setIfInBounds g ob)[r]? = _; rw [Array.getElem?_setIfInBounds_ne hgr]; exact hy⟩
theorem Cls.contract {w0 : World} {B : Nat} {known : List (Nat × Obj)} {rs : List Nat} {t : TypeId} {f : FuncId} {args : Array Value} (hB : B ≤ w0.heap.size) (v : Value) (h : ∀ w, Calls P f args w fun e w' => e = .returned v ∧ Below w.heap.size w w') (hp : Post f args v) :
    Contract P (Cls w0 B known rs t) H N Post f args := fun n w _ hC => (h w).mono fun _ _ ⟨he, hb⟩ => ⟨v, he, hp, hC.later (Cls.size hB n w hC) hb, fun g _ hg => hb.block g hg⟩
theorem Cls.drew {w0 w : World} {B : Nat} {known : List (Nat × Obj)} {rs : List Nat} {t : TypeId} {n : Nat} (h : Cls w0 B known rs t n w) : Cls w0 B known rs t n w.drew := ⟨h.below.drew, h.known, h.pair⟩
theorem heap_new (w : World) (o : Obj) (k : Nat) (h : k = w.heap.size) : (w.alloc o).heap[k]? = some o := by
  subst h
  show (w.heap.push o)[w.heap.size]? = some o
  simp
theorem pair_cells {w : World} {g : Nat} {x0 x1 : Value} {t : TypeId} (h : w.heap[g]? = some (.cells #[x0, x1] t)) :
    w.cell? ⟨g, 0, none⟩ = some x0 ∧ w.cell? ⟨g, 1, none⟩ = some x1 ∧ w.frozen? ⟨g, 0, none⟩ = false ∧ w.frozen? ⟨g, 1, none⟩ = false := by
  unfold World.cell? World.frozen?
  simp [h]
theorem set_pair {w : World} {g : Nat} {x0 x1 : Value} {t : TypeId} (v0 v1 : Value) (h : w.heap[g]? = some (.cells #[x0, x1] t)) : (w.setCell ⟨g, 0, none⟩ v0).setCell ⟨g, 1, none⟩ v1 = wput w g (.cells #[v0, v1] t) := by
  have hlt := (Array.getElem?_eq_some_iff.1 h).1
  unfold World.setCell wput
  simp only [World.mk.injEq, and_true]
  apply Array.ext_getElem?
  intro k
  rw [Array.getElem?_modify, Array.getElem?_modify, Array.getElem?_setIfInBounds]
  by_cases hk : g = k
  · subst hk
    have h2 : w.heap[g] = .cells #[x0, x1] t := (Array.getElem?_eq_some_iff.1 h).2
    simp [h2, hlt]
  · simp [hk]
end
end Go.RegE

namespace Go.RegH
open Go.RowKit Go.LatT
section
variable {P : Program} {ops : Array Oper} {md : Region.Mode} {S : World → Prop}
theorem wp_monoQ {o : Oper} {a : Act} {w : World} {K K' : Act → World → Prop} {Q Q' : Exit → Act → World → Prop} (h : ∀ a w, K a w → K' a w) (hE : ∀ e a w, e ≠ .normal → Q e a w → Q' e a w)
    (hh : o.wp P a w K Q) : o.wp P a w K' Q' := by
  unfold Oper.wp at *
  generalize (execOp a.eval o).run P w = r at *
  cases r with
  | ok n w' =>
    cases n <;> simp only [Oper.upon] at hh ⊢ <;>
      first
        | exact h _ _ hh
        | exact Calls.mono hh (fun e w'' he => by cases e <;> first | exact h _ _ he | exact hE _ _ _ (by simp) he | exact (he : LetsOut Q).imp fun a h => h.imp fun w h => hE _ _ _ (by simp) h)
        | exact Rows.mono hh (fun _ _ he => h _ _ he)
        | exact hE _ _ _ (by simp) hh
        | exact hh
  | halt x w' => cases x <;> simp only [Oper.upon] at hh ⊢ <;> first | exact hh | exact hE _ _ _ (by simp) hh
/-- What is asked ahead of the last operation. -/
def QT (P : Program) (ops : Array Oper) (o : Oper) (Q : Exit → Act → World → Prop) : Exit → Act → World → Prop
  | .normal, a, w => wpList P ops Q [o] a w
  | e, a, w => Q e a w
theorem QT_of {o : Oper} {Q : Exit → Act → World → Prop} (e : Exit) (a : Act) (w : World) (he : e ≠ .normal) (h : QT P ops o Q e a w) : Q e a w := by
  cases e <;> first | exact h | exact absurd rfl he
theorem wpAny_blank_last {n : Nat} {o : Oper} (hn : ops[n]? = some o) (hsz : ops.size = n + 1) (hwait : ∀ i, i < n → ∃ e ∈ o.after, Region.binds md e = true ∧ e.on = i)
    (hac : ∀ (i : Nat) (o : Oper), ops[i]? = some o → ∀ e ∈ o.after, e.on < i) (hg : o.guard = none) (hdst : o.dst = none) {Q : Exit → Act → World → Prop} :
    ∀ (fuel : Nat) (listed : Array Bool) (a : Act) (w : World), listed.size = ops.size → listed.getD n true = false →
      wpAny P md (ops.setIfInBounds n (blanked o)) (QT P ops o Q) fuel listed a w → wpAny P md ops Q fuel listed a w
  | 0, listed, a, w, hls, hu, h => by
    have h0 := h.1
    rw [ready_blank hn] at h0
    exact absurd h0 (some_ready hac hls n n (Nat.le_refl _) (by omega) hu)
  | fuel + 1, listed, a, w, hls, hu, h => by
    refine ⟨fun h0 => absurd h0 (some_ready hac hls n n (Nat.le_refl _) (by omega) hu), fun i hi => ?_⟩
    have h2 := h.2 i (by rw [ready_blank hn]; exact hi)
    by_cases hin : i = n
    · subst hin
      have hall : ∀ j, j < i → listed.getD j false = true := by
        intro j hj
        obtain ⟨_, o', ho', ha⟩ := mem_ready.1 hi
        have : o' = o := Option.some.inj (ho'.symm.trans hn)
        subst this
        obtain ⟨e, he, hb, hon⟩ := hwait j hj
        rw [← hon]; exact ha e he hb
      have hdone : Region.ready md ops (listed.setIfInBounds i true) = [] := by
        apply List.eq_nil_iff_forall_not_mem.2
        intro j hj
        obtain ⟨hun, o', ho', _⟩ := mem_ready.1 hj
        have hjlt : j < ops.size := (Array.getElem?_eq_some_iff.1 ho').1
        by_cases hji : i = j
        · subst hji
          have : i < listed.size := by omega
          simp [this] at hun
        · rw [getD_set_ne true hji] at hun
          have h3 := hall j (by omega)
          have hs : j < listed.size := by omega
          simp [hs] at hun h3
          rw [hun] at h3; cases h3
      have hput : ∀ (a : Act) (v : Value), a.put (blanked o).dst v = a := by intro a v; simp [blanked, hdst, Act.put]
      have hq : wpList P ops Q [o] a w := by
        unfold wpOp at h2
        rw [at_blank hn, if_pos rfl] at h2
        have hw : Region.wanted (blanked o) (yielded (ops.setIfInBounds i (blanked o)) a.tmps) = true := by simp [Region.wanted, blanked, hg]
        simp only [hw, if_true] at h2
        have hd : Region.ready md (ops.setIfInBounds i (blanked o)) (listed.setIfInBounds i true) = [] := by rw [ready_blank hn]; exact hdone
        have hr := BigFrame.run_move (P := P) (w := w) (ρ := a.eval) (o := blanked o) (.const (.bool true)) rfl
        rcases h2 with h4 | ⟨h4, _⟩
        · unfold Oper.wp at h4
          rw [hr] at h4
          simp only [Oper.upon] at h4
          rw [hput] at h4
          cases fuel with
          | zero => exact h4.2
          | succ f => exact h4.1 hd
        · unfold Oper.asks at h4
          have h5 : noRoomEvent ∈ (#[] : Array Event) := h4.1
          simp at h5
      have hwa : Region.wanted o (yielded ops a.tmps) = true := by simp [Region.wanted, hg]
      simp only [wpList, hwa, if_true] at hq
      unfold wpOp
      rw [hn]
      simp only [hwa, if_true]
      exact hq.imp (fun h5 => Oper.wp_mono (fun a' w' h' => wpAny_stop hdone fuel a' w' h') h5) (fun h5 => h5)
    · unfold wpOp at h2 ⊢
      rw [at_blank hn, if_neg hin, yielded_blank hn] at h2
      have ih := fun a' w' h' => wpAny_blank_last hn hsz hwait hac hg hdst (Q := Q) fuel (listed.setIfInBounds i true) a' w' (by simp [hls]) (by rw [getD_set_ne true hin]; exact hu) h'
      split
      · rename_i ho
        simp only [ho] at h2
        exact ih _ _ h2
      · rename_i oi ho
        simp only [ho] at h2
        split
        · rename_i hw
          simp only [hw, if_true] at h2
          exact h2.imp (wp_monoQ ih QT_of) (fun h5 => ⟨h5.1, h5.2.imp fun a h => h.imp fun w h => QT_of _ _ _ (by simp) h⟩)
        · rename_i hw
          simp only [hw] at h2
          exact ih _ _ h2
/-- What is asked of the region, by a Bool. -/
def lastC (l : List Oper) (o : Oper) : Bool :=
  o.guard.isNone && o.dst.isNone && (List.range (l.length - 1)).all (fun i => o.after.any fun e => Region.binds .any e && e.on == i) &&
  (List.range l.length).all (fun i => ((l[i]?).map fun p => p.after.all fun e => decide (e.on < i)).getD true)
theorem wp_region_held_tail {id : Nat} {Q : Exit → Act → World → Prop} {a : Act} {w : World} {l init : List Oper} {o : Oper} (hm : P.follows .mixedOrders = true)
    (hi : l.dropLast = init) (ho : l.getLast? = some o) (hB : lastC l o = true)
    (h : wpAnyH P .any (init ++ [blanked o]).toArray (QT P l.toArray o Q) S l.length (Array.replicate l.length false) a w.drew) : (Code.region id l.toArray true).wp P Q a w := by
  have hne : l ≠ [] := by intro e; rw [e] at ho; cases ho
  have hl : l = init ++ [o] := by
    rw [← hi]
    rw [List.getLast?_eq_some_getLast hne] at ho
    rw [← Option.some.inj ho]; exact (List.dropLast_concat_getLast hne).symm
  simp only [lastC, Bool.and_eq_true] at hB
  obtain ⟨⟨⟨hg, hd⟩, hw⟩, hac⟩ := hB
  have hg' : o.guard = none := by simpa using hg
  have hd' : o.dst = none := by simpa using hd
  have hlen : l.length = init.length + 1 := by rw [hl]; simp
  have hn : l.toArray[init.length]? = some o := by rw [hl]; simp
  have hset : l.toArray.setIfInBounds init.length (blanked o) = (init ++ [blanked o]).toArray := by
    rw [hl]; simp
  refine wp_region_any hm ?_
  refine wpAny_blank_last hn (by simp [hlen]) (by
      intro i hi'
      have := List.all_eq_true.1 hw i (List.mem_range.2 (by omega))
      obtain ⟨e, he, hb⟩ := Array.any_eq_true'.1 this
      simp only [Bool.and_eq_true, beq_iff_eq] at hb
      exact ⟨e, he, hb.1, hb.2⟩) (by
      intro i p hp e he
      have hlt : i < l.length := by have := (Array.getElem?_eq_some_iff.1 hp).1; simpa using this
      have := List.all_eq_true.1 hac i (List.mem_range.2 hlt)
      have hp' : l[i]? = some p := by simpa using hp
      rw [hp'] at this
      simp only [Option.map_some, Option.getD_some] at this
      have := Array.all_eq_true_iff_forall_mem.1 this e he
      simpa using this) hg' hd' l.toArray.size (Array.replicate l.toArray.size false) a { w with drawn := w.drawn + 1 } (by simp) (by simp [hlen]) ?_
  rw [hset]
  have h1 := wpAny_of_held _ _ _ _ h
  simpa using h1
end
end Go.RegH

namespace Go.Proofs.YtefmmopkikpnhaaGreatDoor
open Go.RowKit Go.LatT Go.BlockM Go.RegE
set_option linter.unusedVariables false
set_option linter.unusedSimpArgs false
theorem xor_i64 (a b : Int) (ha : 0 ≤ a) (ha' : a < 4611686018427387904) (hb : 0 ≤ b) (hb' : b < 4611686018427387904) : 0 ≤ bits .xor .i64 a b ∧ bits .xor .i64 a b < 4611686018427387904 := by
  obtain ⟨A, rfl⟩ := Int.eq_ofNat_of_zero_le ha
  obtain ⟨B, rfl⟩ := Int.eq_ofNat_of_zero_le hb
  have h : A ^^^ B < 2 ^ 62 := Nat.xor_lt_two_pow (by omega) (by omega)
  have e : bits .xor .i64 (A : Int) (B : Int) = ((A ^^^ B : Nat) : Int) := by
    show IntKind.i64.wrap ((BitVec.ofInt 64 (A : Int) ^^^ BitVec.ofInt 64 (B : Int)).toNat : Int) = _
    rw [BitVec.toNat_xor, ofInt_u64 A (by omega), ofInt_u64 B (by omega)]
    exact wrap_i64_small _ (by omega) (by omega)
  rw [e]
  omega
/-- What a reader reads: n bytes from a place on. -/
structure Src (w : World) (bb off n : Nat) (z : Nat → Int) : Prop where
  cell : ∀ i, i < n → w.cell? ⟨bb, off + i, none⟩ = some (.int .u8 (z i))
  lo : ∀ i, 0 ≤ z i
  hi : ∀ i, z i ≤ 255
set_option maxHeartbeats 1000000 in
set_option maxRecDepth 100000 in
theorem pick_some (R bb off n cap : Nat) (z : Nat → Int) (p m : Int) (w : World) (hne : bb ≠ R) (h0 : w.cell? ⟨R, 0, none⟩ = some (.slice (some ⟨bb, off, none⟩) n cap)) (h1 : w.cell? ⟨R, 1, none⟩ = some (.int .i64 p)) (hf : w.frozen? ⟨R, 1, none⟩ = false)
    (hs : Src w bb off n z) (hn0 : 1 ≤ n) (hn : n ≤ 2000) (hp : 0 ≤ p) (hp' : p ≤ 1099511627776) (hm : 1 ≤ m) (hm' : m ≤ 4294967296) :
    Calls Tryz.prog 51 #[.pointer (some ⟨R, 0, none⟩), .int .i64 m] w fun e w' => ∃ (u : Int) (k : Nat), e = .returned (.int .i64 u) ∧ 0 ≤ u ∧ u < m ∧ w' = (w.setCell ⟨R, 1, none⟩ (.int .i64 (p + 1))).drewN k := by
  have hd : ((n : Int) == 0) = false := by simp; omega
  have hnI : (1 : Int) ≤ n := by omega
  have hnI' : (n : Int) ≤ 2000 := by omega
  have hne' : ¬ R = bb := fun e => hne e.symm
  by_cases hk : p < n
  · obtain ⟨pn, rfl⟩ := Int.eq_ofNat_of_zero_le hp
    have hc := hs.cell pn (by omega)
    have hl := hs.lo pn
    have hh := hs.hi pn
    have hb0 : (0 : Int) ≤ (pn : Int) := by omega
    clear hs
    go_enter Tryz.func51, Tryz.ntmps51
    go_wp2
    go_ret
    exact ⟨z pn % m, 0, rfl, Int.emod_nonneg _ (by omega), Int.emod_lt_of_pos _ (by omega), rfl⟩
  · obtain ⟨pn, rfl⟩ := Int.eq_ofNat_of_zero_le hp
    have i1 : (0 : Int) ≤ (pn : Int) % (n : Int) := Int.emod_nonneg _ (by omega)
    have i2 : (pn : Int) % (n : Int) < (n : Int) := Int.emod_lt_of_pos _ (by omega)
    have i3 : (0 : Int) ≤ ((pn : Int) * 7 + 3) % (n : Int) := Int.emod_nonneg _ (by omega)
    have i4 : ((pn : Int) * 7 + 3) % (n : Int) < (n : Int) := Int.emod_lt_of_pos _ (by omega)
    have i5 : (0 : Int) ≤ (pn : Int) / (n : Int) := Int.ediv_nonneg (by omega) (by omega)
    have i6 : (pn : Int) / (n : Int) ≤ (pn : Int) := Int.ediv_le_self _ (by omega)
    have c1 := hs.cell (pn % n) (Nat.mod_lt _ (by omega))
    have c2 := hs.cell ((pn * 7 + 3) % n) (Nat.mod_lt _ (by omega))
    have l1 := hs.lo (pn % n)
    have l2 := hs.hi (pn % n)
    have l3 := hs.lo ((pn * 7 + 3) % n)
    have l4 := hs.hi ((pn * 7 + 3) % n)
    clear hs
    go_enter Tryz.func51, Tryz.ntmps51
    go_wp2
    go_quiet (fail)
    go_wp2
    go_ret
    have x1 : 0 ≤ z (pn % n) * 131 + z ((pn * 7 + 3) % n) * 1117 + (pn : Int) * 29 + (pn : Int) / (n : Int) * 53 := by omega
    have x2 : z (pn % n) * 131 + z ((pn * 7 + 3) % n) * 1117 + (pn : Int) * 29 + (pn : Int) / (n : Int) * 53 < 4611686018427387904 := by omega
    generalize z (pn % n) * 131 + z ((pn * 7 + 3) % n) * 1117 + (pn : Int) * 29 + (pn : Int) / (n : Int) * 53 = x at *
    obtain ⟨y1, _⟩ := xor_i64 x (x / 64) x1 x2 (by omega) (by omega)
    exact ⟨_, nq, rfl, Int.tmod_nonneg _ y1, Int.tmod_lt_of_pos _ (by omega), rfl⟩
set_option maxHeartbeats 400000 in
set_option maxRecDepth 100000 in
theorem pick_nil (R cap : Nat) (a : Option Addr) (p m : Int) (w : World) (h0 : w.cell? ⟨R, 0, none⟩ = some (.slice a 0 cap)) (h1 : w.cell? ⟨R, 1, none⟩ = some (.int .i64 p)) (hf : w.frozen? ⟨R, 1, none⟩ = false)
    (hp : 0 ≤ p) (hp' : p ≤ 1099511627776) (hm : 1 ≤ m) (hm' : m ≤ 4294967296) :
    Calls Tryz.prog 51 #[.pointer (some ⟨R, 0, none⟩), .int .i64 m] w fun e w' => ∃ (u : Int) (k : Nat), e = .returned (.int .i64 u) ∧ 0 ≤ u ∧ u < m ∧ w' = (w.setCell ⟨R, 1, none⟩ (.int .i64 (p + 1))).drewN k := by
  go_enter Tryz.func51, Tryz.ntmps51
  go_wp2
  go_ret
  exact ⟨0, 0, rfl, by omega, by omega, rfl⟩
/-- A reader, at a place. -/
structure Rdr (w : World) (R : Nat) (sl : Value) (p : Int) : Prop where
  c0 : w.cell? ⟨R, 0, none⟩ = some sl
  c1 : w.cell? ⟨R, 1, none⟩ = some (.int .i64 p)
  fz : w.frozen? ⟨R, 1, none⟩ = false
  src : (∃ a c, sl = .slice a 0 c) ∨ ∃ bb off n cap z, sl = .slice (some ⟨bb, off, none⟩) n cap ∧ bb ≠ R ∧ 1 ≤ n ∧ n ≤ 2000 ∧ Src w bb off n z
theorem pick_any (R : Nat) (sl : Value) (p m : Int) (w : World) (h : Rdr w R sl p) (hp : 0 ≤ p) (hp' : p ≤ 1099511627776) (hm : 1 ≤ m) (hm' : m ≤ 4294967296) :
    Calls Tryz.prog 51 #[.pointer (some ⟨R, 0, none⟩), .int .i64 m] w fun e w' => ∃ (u : Int) (k : Nat), e = .returned (.int .i64 u) ∧ 0 ≤ u ∧ u < m ∧ w' = (w.setCell ⟨R, 1, none⟩ (.int .i64 (p + 1))).drewN k := by
  rcases h.src with ⟨a, c, rfl⟩ | ⟨bb, off, n, cap, z, rfl, hne, h1, h2, hs⟩
  · exact pick_nil R c a p m w h.c0 h.c1 h.fz hp hp' hm hm'
  · exact pick_some R bb off n cap z p m w hne h.c0 h.c1 h.fz hs h1 h2 hp hp' hm hm'
set_option maxHeartbeats 400000 in
set_option maxRecDepth 100000 in
theorem one_any (R G : Nat) (sl : Value) (p : Int) (vs : List Int) (w : World) (h : Rdr w R sl p) (hG : G ≠ R) (hp : 0 ≤ p) (hp' : p ≤ 1099511627776) (hl : 1 ≤ vs.length) (hl' : vs.length ≤ 100) (hv : ∀ i, i < vs.length → w.cell? ⟨G, i, none⟩ = some (.int .i64 (vs.getD i 0))) :
    Calls Tryz.prog 50 #[.pointer (some ⟨R, 0, none⟩), .slice (some ⟨G, 0, none⟩) vs.length vs.length] w fun e w' => ∃ (u : Int) (k : Nat), e = .returned (.int .i64 u) ∧ u ∈ vs ∧ w' = (w.setCell ⟨R, 1, none⟩ (.int .i64 (p + 1))).drewN k := by
  have H := hid_in h
  have HV := hid_in hv
  clear h hv
  have hb1 : (1 : Int) ≤ (vs.length : Int) := by omega
  have hb2 : (vs.length : Int) ≤ 100 := by omega
  go_enter Tryz.func50, Tryz.ntmps50
  go_wp2_with fail
  refine (pick_any R sl p _ _ H.out hp hp' hb1 (by omega)).mono ?_
  rintro e w' ⟨u, k, rfl, hu0, hu1, rfl⟩
  obtain ⟨un, rfl⟩ := Int.eq_ofNat_of_zero_le hu0
  have hc := HV.out un (by omega)
  have hGR : ¬ R = G := fun e => hG e.symm
  go_wp2_with fail
  go_ret
  exact ⟨_, k, rfl, by
    have hlt : un < vs.length := by omega
    simp [List.getElem?_eq_getElem hlt], rfl⟩
/-- All but one block is as it was. -/
structure Mv (R : Nat) (w w' : World) : Prop where
  os : w'.os = w.os
  tape : w'.tape = w.tape
  output : w'.output = w.output
  size : w.heap.size ≤ w'.heap.size
  block : ∀ k, k < w.heap.size → k ≠ R → w'.heap[k]? = w.heap[k]?
theorem Mv.refl (R : Nat) (w : World) : Mv R w w := ⟨rfl, rfl, rfl, Nat.le_refl _, fun _ _ _ => rfl⟩
theorem Mv.trans {R : Nat} {a b c : World} (h : Mv R a b) (k : Mv R b c) : Mv R a c :=
  ⟨k.os.trans h.os, k.tape.trans h.tape, k.output.trans h.output, Nat.le_trans h.size k.size, fun i hi hr => (k.block i (Nat.lt_of_lt_of_le hi h.size) hr).trans (h.block i hi hr)⟩
theorem Mv.of_below {R : Nat} {w w' : World} (h : Below w.heap.size w w') : Mv R w w' := ⟨h.os, h.tape, h.output, h.size, fun k hk _ => h.block k hk⟩
theorem Mv.below {R B : Nat} {w w' : World} (h : Mv R w w') (hB : B ≤ w.heap.size) (hR : B ≤ R) : Below B w w' := ⟨h.os, h.tape, h.output, h.size, fun k hk => h.block k (by omega) (by omega)⟩
theorem Mv.set (R : Nat) (w : World) (v : Value) (k : Nat) : Mv R w ((w.setCell ⟨R, 1, none⟩ v).drewN k) :=
  ⟨rfl, rfl, rfl, by simp [World.setCell], fun i _ hr => Below.heap_setCell _ _ _ _ hr⟩
theorem Mv.cell {R : Nat} {w w' : World} (h : Mv R w w') (b o : Nat) (hb : b < w.heap.size) (hr : b ≠ R) : w'.cell? ⟨b, o, none⟩ = w.cell? ⟨b, o, none⟩ := by
  unfold World.cell?; rw [h.block b hb hr]
theorem Mv.frozen {R : Nat} {w w' : World} (h : Mv R w w') (b o : Nat) (hb : b < w.heap.size) (hr : b ≠ R) : w'.frozen? ⟨b, o, none⟩ = w.frozen? ⟨b, o, none⟩ := by
  unfold World.frozen?; rw [h.block b hb hr]
theorem cell_lt {w : World} {b o : Nat} {v : Value} (h : w.cell? ⟨b, o, none⟩ = some v) : b < w.heap.size := by
  unfold World.cell? at h
  rcases Nat.lt_or_ge b w.heap.size with h' | h'
  · exact h'
  · simp [Array.getElem?_eq_none h'] at h
theorem Rdr.lt {w : World} {R : Nat} {sl : Value} {p : Int} (h : Rdr w R sl p) : R < w.heap.size := cell_lt h.c1
theorem Rdr.src_of {w w' : World} {R : Nat} {sl : Value} {p : Int} (h : Rdr w R sl p) (hm : Mv R w w') :
    (∃ a c, sl = .slice a 0 c) ∨ ∃ bb off n cap z, sl = .slice (some ⟨bb, off, none⟩) n cap ∧ bb ≠ R ∧ 1 ≤ n ∧ n ≤ 2000 ∧ Src w' bb off n z := by
  rcases h.src with h1 | ⟨bb, off, n, cap, z, e, hne, h1, h2, hs⟩
  · exact .inl h1
  · exact .inr ⟨bb, off, n, cap, z, e, hne, h1, h2, ⟨fun i hi => by rw [hm.cell _ _ (cell_lt (hs.cell i hi)) hne]; exact hs.cell i hi, hs.lo, hs.hi⟩⟩
theorem Rdr.later {w w' : World} {R : Nat} {sl : Value} {p : Int} (h : Rdr w R sl p) (hb : Below w.heap.size w w') : Rdr w' R sl p := by
  obtain ⟨hc, hf⟩ := bcell hb
  exact ⟨by rw [hc _ _ h.lt]; exact h.c0, by rw [hc _ _ h.lt]; exact h.c1, by rw [hf _ _ h.lt]; exact h.fz, h.src_of (Mv.of_below hb)⟩
theorem Rdr.step {w : World} {R : Nat} {sl : Value} {p : Int} (h : Rdr w R sl p) (q : Int) (k : Nat) : Rdr ((w.setCell ⟨R, 1, none⟩ (.int .i64 q)).drewN k) R sl q := by
  have c0 := h.c0
  have c1 := h.c1
  have fz := h.fz
  exact ⟨by go_simp, by go_simp, by go_simp, h.src_of (Mv.set R w _ k)⟩
theorem pickM (R : Nat) (sl : Value) (p m : Int) (w : World) (h : Rdr w R sl p) (hp : 0 ≤ p) (hp' : p ≤ 1099511627776) (hm : 1 ≤ m) (hm' : m ≤ 4294967296) :
    Calls Tryz.prog 51 #[.pointer (some ⟨R, 0, none⟩), .int .i64 m] w fun e w' => ∃ u : Int, e = .returned (.int .i64 u) ∧ 0 ≤ u ∧ u < m ∧ Rdr w' R sl (p + 1) ∧ Mv R w w' :=
  (pick_any R sl p m w h hp hp' hm hm').mono fun _ _ ⟨u, k, he, h1, h2, hw⟩ => ⟨u, he, h1, h2, by rw [hw]; exact h.step _ k, by rw [hw]; exact Mv.set R w _ k⟩
theorem oneM (R G : Nat) (sl : Value) (p : Int) (vs : List Int) (w : World) (h : Rdr w R sl p) (hG : G ≠ R) (hp : 0 ≤ p) (hp' : p ≤ 1099511627776) (hl : 1 ≤ vs.length) (hl' : vs.length ≤ 100) (hv : ∀ i, i < vs.length → w.cell? ⟨G, i, none⟩ = some (.int .i64 (vs.getD i 0))) :
    Calls Tryz.prog 50 #[.pointer (some ⟨R, 0, none⟩), .slice (some ⟨G, 0, none⟩) vs.length vs.length] w fun e w' => ∃ u : Int, e = .returned (.int .i64 u) ∧ u ∈ vs ∧ Rdr w' R sl (p + 1) ∧ Mv R w w' :=
  (one_any R G sl p vs w h hG hp hp' hl hl' hv).mono fun _ _ ⟨u, k, he, h1, hw⟩ => ⟨u, he, h1, by rw [hw]; exact h.step _ k, by rw [hw]; exact Mv.set R w _ k⟩
theorem new_ints (vs : List Int) (t : TypeId) (w : World) (i : Nat) (hi : i < vs.length) : (w.alloc (.cells (vs.map fun v => Value.int .i64 v).toArray t)).cell? ⟨w.heap.size, i, none⟩ = some (.int .i64 (vs.getD i 0)) := by
  have h := heap_new w (.cells (vs.map fun v => Value.int .i64 v).toArray t) _ rfl
  unfold World.cell?
  simp only [h]
  simp [hi]
end Go.Proofs.YtefmmopkikpnhaaGreatDoor

