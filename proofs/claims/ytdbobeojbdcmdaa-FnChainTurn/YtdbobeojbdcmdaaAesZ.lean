/- What lies where while the keys of AES are made, in the program. The conditions stand at each theorem. -/
import Derived.Test.YtdbobeojbdcmdaaAesY
import Derived.Test.YtdbobeojbdcmdaaApdK
import Derived.Test.YtdbobeojbdcmdaaAesJ
import Derived.Test.YtdbobeojbdcmdaaRegH
import Derived.Great.BuildSlice
namespace Go.Proofs.Ytdbobeojbdcmdaa
open Go.RowKit Go.LatT Go.BlockM Go.PlainAid Go.OpnT Go.ApdG Go.BytM Go.AesM Go.RowQ Go.RegH
set_option linter.unusedVariables false
set_option linter.unusedSimpArgs false
theorem mul_two : ∀ a : Fin 256, mul a.1 2 = xt a.1 := by decide +kernel
/-- Blocks as cells, one behind the other. -/
def gC (n : Nat) (K : Nat → Nat → Nat) : List Value := (List.range n).flatMap fun i => (rC 16 (K i)).toList
theorem gC_succ (n : Nat) (K : Nat → Nat → Nat) : gC (n + 1) K = gC n K ++ (rC 16 (K n)).toList := by simp [gC, List.range_succ]
theorem gC_len (K : Nat → Nat → Nat) : ∀ n, (gC n K).length = n * 16
  | 0 => by simp [gC]
  | n + 1 => by rw [gC_succ, List.length_append, gC_len K n, Array.length_toList, rC_size]; omega
theorem gC_get (K : Nat → Nat → Nat) : ∀ n i j, i < n → j < 16 → (gC n K)[i * 16 + j]? = some (.int .u8 (K i j : Int))
  | 0, i, j, hi, _ => by omega
  | n + 1, i, j, hi, hj => by
    have hlen := gC_len K n
    rw [gC_succ]
    by_cases h : i < n
    · rw [List.getElem?_append_left (by omega)]
      exact gC_get K n i j h hj
    · obtain rfl : i = n := by omega
      rw [List.getElem?_append_right (by omega), hlen, show i * 16 + j - i * 16 = j by omega]
      rw [Array.getElem?_toList]
      exact rC_get 16 (K i) j hj
theorem gC_congr {n : Nat} {K L : Nat → Nat → Nat} (h : ∀ i, i < n → ∀ j, j < 16 → K i j = L i j) : gC n K = gC n L := by
  unfold gC
  rw [List.flatMap_def, List.flatMap_def, List.map_congr_left fun i hi => by rw [rC_congr (h i (List.mem_range.1 hi))]]
theorem gC_one (n : Nat) (K : Nat → Nat → Nat) : ∀ u ∈ gC n K, u.oneCell' = true := by
  intro u hu
  simp [gC, rC] at hu
  obtain ⟨i, _, j, _, rfl⟩ := hu
  rfl
theorem elemG : ElemT Try.prog 43 41 16 (.agg (rC 16 fun _ => 0)) := ElemT.mk' (b := 16) Try.underlying43 (by kernel_rfl) (by show (rC 16 fun _ => 0).size = 16; exact rC_size _ _) (by decide) (by decide)
/-- A list of blocks that the call owns. -/
def GL (W : World) (B : Nat) (v : Value) (n : Nat) (K : Nat → Nat → Nat) : Prop := W.ownsRow B 41 16 v n (gC n K)
theorem GL.row {W : World} {B n : Nat} {v : Value} {K : Nat → Nat → Nat} (h : GL W B v n K) (hn : 0 < n) : ∃ g c cur, v = .slice (some ⟨g, 0, none⟩) n c ∧ n ≤ c ∧ B ≤ g ∧ KR W g n K ∧ W.heap[g]? = some (.cells cur 41 (0, 0)) ∧ ∀ i, W.frozen? ⟨g, i, none⟩ = false := by
  have hcells := fun g hg => World.ownsRow.cells h (g := g) hg
  have hown := h
  obtain ⟨h1, h2⟩ := h
  rcases h2 with ⟨rfl, h0⟩ | ⟨g, cap, cur, rfl, e2, e3, e4, e5, e6, e7⟩
  · omega
  · refine ⟨g, cap, cur, rfl, e4, e2, ⟨(Array.getElem?_eq_some_iff.1 e3).1, fun i hi j hj => ?_⟩, e3, fun i => World.ownsRow.frozenAt hown i⟩
    have := hcells g rfl (i * 16 + j) _ (gC_get K n i j hi hj)
    unfold Addr.add at this
    by_cases hz : i * 16 + j = 0
    · rw [if_pos hz] at this; rw [hz]; exact this
    · rw [if_neg hz, Nat.zero_add] at this; exact this
theorem GL.mono {W : World} {B B' n : Nat} {v : Value} {K : Nat → Nat → Nat} (h : GL W B v n K) (hB : B' ≤ B) : GL W B' v n K := by
  obtain ⟨h1, h2⟩ := h
  refine ⟨h1, ?_⟩
  rcases h2 with h2 | ⟨g, cap, cur, e1, e2, e3⟩
  · exact .inl h2
  · exact .inr ⟨g, cap, cur, e1, Nat.le_trans hB e2, e3⟩
theorem GL.congr {W : World} {B n : Nat} {v : Value} {K L : Nat → Nat → Nat} (h : GL W B v n K) (e : ∀ i, i < n → ∀ j, j < 16 → K i j = L i j) : GL W B v n L := by
  unfold GL; rw [← gC_congr e]; exact h
theorem run_buildG (f : Nat → Nat) (W : World) : (Instr.buildSlice 43 1 #[(0, .agg (rC 16 f))]).run Try.prog W = .ok (.slice (some ⟨W.heap.size, 0, none⟩) 1 1) (W.alloc (.cells (rC 16 f) 41)) := by
  obtain ⟨i, b, hi, hz, hsz, hb, hb'⟩ := elemG.info
  refine run_buildSlice W 43 41 1 _ (rC 16 f) i _ elemG.under hi hz (by rw [hsz]; decide) (by rw [hsz]; decide) ?_
  rw [hsz]
  have h := Great.fill_whole (s := 16) (by decide) [.agg (rC 16 f)] ((Array.range (1 * 16)).map (fun x => ((Value.agg (rC 16 fun _ => 0)).cells)[x % ((Value.agg (rC 16 fun _ => 0)).cells).size]!)) (by intro v hv; simp at hv; subst hv; exact rC_size _ _) (by simp)
  have e1 : ([Value.agg (rC 16 f)].flatMap fun v => v.cells.toList).toArray = rC 16 f := by simp [Value.cells]
  rw [e1] at h
  exact h
theorem wp_buildG {o : Oper} {a : Act} {w : World} {K : Act → World → Prop} {Q : Exit → Act → World → Prop} (x : Operand) (f : Nat → Nat) (ho : o.op = .buildSlice 43 1 #[(0, x)]) (hx : a.eval x = .agg (rC 16 f))
    (h : K (a.put o.dst (.slice (some ⟨w.heap.size, 0, none⟩) 1 1)) (w.alloc (.cells (rC 16 f) 41))) : o.wp Try.prog a w K Q := by
  unfold Oper.wp execOp
  have e : (#[(0, x)] : Array (Nat × Operand)).map (fun (i, y) => (i, a.eval y)) = #[(0, .agg (rC 16 f))] := by simp [hx]
  simp only [ho, e, Sem.run_bind, run_buildG f w, Result.andThen_ok]
  exact h
theorem wpList_buildG {ops : Array Oper} {rest : List Oper} {o : Oper} {a : Act} {w : World} {Q : Exit → Act → World → Prop} (hg : o.guard = none) (x : Operand) (f : Nat → Nat) (ho : o.op = .buildSlice 43 1 #[(0, x)]) (hx : a.eval x = .agg (rC 16 f))
    (h : wpList Try.prog ops Q rest (a.put o.dst (.slice (some ⟨w.heap.size, 0, none⟩) 1 1)) (w.alloc (.cells (rC 16 f) 41))) : wpList Try.prog ops Q (o :: rest) a w :=
  wpList_plain hg fun _ hK => wp_buildG x f ho hx (hK _ _ h)
theorem aggC : AggT Try.prog 45 2 := ⟨fun w => by kernel_rfl, fun w => by kernel_rfl⟩
theorem yieldsIf_load_at {P : Program} {ops : Array Oper} {S : World → Prop} {o : Oper} {a : Act} {ty : TypeId} {n : Nat} (h : AggT P ty n) (hgd : o.guard = none) (x : Operand) (ho : o.op = .load ty x)
    (ad : Addr) (hx : a.eval x = .pointer (some ad)) (cs : Array Value) (hn : cs.size = n) (hc : ∀ w, S w → ∀ j, j < n → w.cell? (ad.add j) = cs[j]?) : YieldsIf P ops S o (.agg cs) a :=
  Or.inl ⟨by simp [Region.wanted, hgd], fun w hS => by
    unfold execOp
    simp only [ho, hx, Instr.loadAt, Instr.sureAddr, Sem.run_bind, Sem.run_pure, Result.andThen_ok, run_load_at h w ad cs hn (hc w hS)]⟩
/-- A cipher that lies in a block of its own. -/
def CB (W : World) (gc gt : Nat) (v : Value) : Prop := W.heap[gc]? = some (.cells #[.pointer (some ⟨gt, 0, none⟩), v] 45 (0, 0))
section
variable {W W' : World} {gc gt : Nat} {v : Value}
theorem CB.lt (h : CB W gc gt v) : gc < W.heap.size := (Array.getElem?_eq_some_iff.1 h).1
theorem CB.later (h : CB W gc gt v) (hb : Below W.heap.size W W') : CB W' gc gt v := by
  unfold CB; rw [hb.block gc h.lt]; exact h
theorem CB.c0 (h : CB W gc gt v) : W.cell? ⟨gc, 0, none⟩ = some (.pointer (some ⟨gt, 0, none⟩)) := by rw [cell_of_row W gc 0 _ _ _ h]; rfl
theorem CB.c1 (h : CB W gc gt v) : W.cell? ⟨gc, 1, none⟩ = some v := by rw [cell_of_row W gc 1 _ _ _ h]; rfl
theorem CB.frozen (h : CB W gc gt v) (i : Nat) : W.frozen? ⟨gc, i, none⟩ = false := frozen_of_row W gc i _ _ h
theorem CB.row (h : CB W gc gt v) : ∀ j, j < 2 → W.cell? ((⟨gc, 0, none⟩ : Addr).add j) = (#[.pointer (some ⟨gt, 0, none⟩), v] : Array Value)[j]? := by
  intro j hj
  have : j = 0 ∨ j = 1 := by omega
  rcases this with rfl | rfl
  · exact h.c0
  · exact h.c1
theorem CB.set (h : CB W gc gt v) (u : Value) : CB (W.setCell ⟨gc, 1, none⟩ u) gc gt u := by
  unfold CB; rw [heap_setCell_same W gc 1 _ _ u h]; rfl
theorem CB.ne_grid {g : Nat} {cur : Array Value} (h : CB W gc gt v) (hg : W.heap[g]? = some (.cells cur 41 (0, 0))) : gc ≠ g := by
  intro e
  subst e
  rw [h] at hg
  have := congrArg (fun o => match o with | some (Obj.cells _ t _) => t | _ => 0) hg
  simp at this
end
/-- What lies where while the keys are made. -/
structure CS (w W : World) (gc gt n : Nat) (v : Value) (K : Nat → Nat → Nat) : Prop where
  bel : Below w.heap.size w W
  res : W.heap[w.heap.size]? = some (.cells #[.pointer none, .slice none 0 0] 45 (0, 0))
  box : CB W gc gt v
  tab : RB W gt 512 69 (tabF 255)
  own : GL W w.heap.size v n K
  gcb : w.heap.size < gc
section
variable {w W W' W2 : World} {gc gt n : Nat} {v : Value} {K : Nat → Nat → Nat}
theorem CS.later (s : CS w W gc gt n v K) (hb : Below W.heap.size W W') : CS w W' gc gt n v K :=
  ⟨below_later s.bel hb, by rw [hb.block _ (Array.getElem?_eq_some_iff.1 s.res).1]; exact s.res, s.box.later hb, RBlater s.tab hb, owns_below s.own hb, s.gcb⟩
theorem CS.congrK {L : Nat → Nat → Nat} (s : CS w W gc gt n v K) (e : ∀ i, i < n → ∀ j, j < 16 → K i j = L i j) : CS w W gc gt n v L := ⟨s.bel, s.res, s.box, s.tab, s.own.congr e, s.gcb⟩
theorem CS.grew {g : Nat} {c : Nat} {v' : Value} {x : Nat → Nat} (s : CS w W gc gt n (.slice (some ⟨g, 0, none⟩) n c) K) (hn : 0 < n) (G : Grew W W' w.heap.size 41 16 g n 1 v' (gC n K) (rC 16 x).toList) :
    CS w (W'.setCell ⟨gc, 1, none⟩ v') gc gt (n + 1) v' (fun i => if i = n then x else K i) := by
  obtain ⟨g', c', cur, hu, hc, hg, R, hh, hz⟩ := s.own.row hn
  have hu2 : g = g' ∧ c = c' := by simpa using hu
  obtain ⟨rfl, rfl⟩ := hu2
  obtain ⟨_, _, _, _, h5⟩ := G.by_
  have hgl := R.lt
  have ne1 := s.box.ne_grid hh
  have ne2 : w.heap.size ≠ g := by
    intro e
    rw [← e] at hh
    rw [s.res] at hh
    have := congrArg (fun o => match o with | some (Obj.cells _ t _) => t | _ => 0) hh
    simp at this
  have ne3 : gt ≠ g := by
    intro e
    rw [← e] at hh
    have ht : W.heap[gt]? = _ := s.tab
    rw [ht] at hh
    have := congrArg (fun o => match o with | some (Obj.cells _ t _) => t | _ => 0) hh
    simp at this
  have hgt : gt ≠ gc := by
    intro e
    have ht : W.heap[gt]? = _ := s.tab
    have hbx : W.heap[gc]? = _ := s.box
    rw [e, hbx] at ht
    have := congrArg (fun o => match o with | some (Obj.cells _ t _) => t | _ => 0) ht
    simp at this
  have b1 : CB W' gc gt (.slice (some ⟨g, 0, none⟩) n c) := by unfold CB; rw [h5 gc s.box.lt (by simp; exact ne1)]; exact s.box
  have hne' : some gc ≠ v'.ownBlock := by
    rcases G.blk with e | e <;> rw [e] <;> simp
    · exact ne1
    · have := s.box.lt; omega
  refine ⟨(grown_below G.by_ s.bel.size (fun k hk => by simp at hk; omega) |> fun h => s.bel.trans h).setCell (by have := s.gcb; show w.heap.size ≤ gc; omega) _, ?_, b1.set v', ?_, ?_, s.gcb⟩
  · rw [heap_setCell_other _ ⟨gc, 1, none⟩ _ _ (by have := s.gcb; show w.heap.size ≠ gc; omega), h5 _ (Array.getElem?_eq_some_iff.1 s.res).1 (by simp; exact ne2)]; exact s.res
  · refine RB.other ?_ _ _ _ (Ne.symm hgt)
    unfold RB; rw [h5 gt s.tab.lt (by simp; exact ne3)]; exact s.tab
  · have ho := G.own
    have e1 : gC n K ++ (rC 16 x).toList = gC (n + 1) (fun i => if i = n then x else K i) := by
      rw [gC_succ, if_pos rfl]
      congr 1
      exact gC_congr (fun i hi j hj => by rw [if_neg (by omega)])
    rw [e1] at ho
    refine World.ownsRow.kept ho (row := some gc) ⟨rfl, rfl, rfl, by simp, fun k _ hk => heap_setCell_other _ ⟨gc, 1, none⟩ _ _ (fun e => hk (by simp [e]))⟩ (.inr (fun e => hne' e.symm))
end
end Go.Proofs.Ytdbobeojbdcmdaa
