/- What is proved: the contracts of AesZ, CipA, CipB, BldA, BldB, KeyA, PutA, PutB, GetA, GetB, GriA, ChnB, ChnM, one behind the other. The conditions stand at each theorem. -/
import Derived.Test.YtefmmopkikpnhaaGreatDoorGAeB
import Derived.Test.YtefmmopkikpnhaaGreatDoorGBas
import Derived.Test.YtefmmopkikpnhaaGreatDoorGAeA
import Derived.Great.BuildSlice
import Derived.Test.YtefmmopkikpnhaaGreatDoorShelf
import Derived.Deep.MidRow
namespace Go.Proofs.YtefmmopkikpnhaaGreatDoor
open Go.RowKit Go.LatT Go.BlockM Go.PlainAid Go.OpnT Go.ApdG Go.BytM Go.AesM Go.RowQ Go.RegH
set_option linter.unusedVariables false
set_option linter.unusedSimpArgs false
theorem mul_two : ∀ a : Fin 256, mul a.1 2 = xt a.1 := by decide +kernel
/-- Blocks as cells, one behind the other. -/
def gC (n : Nat) (K : Nat → Nat → Nat) : List Value := (List.range n).flatMap fun i => (rC 16 (K i)).toList
theorem gC_succ (n : Nat) (K : Nat → Nat → Nat) : gC (n + 1) K = gC n K ++ (rC 16 (K n)).toList := by simp [gC, List.range_succ]
theorem gC_len (K : Nat → Nat → Nat) : ∀ n, (gC n K).length = n * 16
  | 0 => by simp [gC]
  | n + 1 => by rw [gC_succ, List.length_append, gC_len K n, Array.length_toList, rC_size]; omega
theorem gC_get (K : Nat → Nat → Nat) : ∀ n i j, i < n → j < 16 → (gC n K)[i * 16 + j]? = some (.int .u8 (K i j : Int))
  | 0, i, j, hi, _ => by omega
  | n + 1, i, j, hi, hj => by
    have hlen := gC_len K n
    rw [gC_succ]
    by_cases h : i < n
    · rw [List.getElem?_append_left (by omega)]
      exact gC_get K n i j h hj
    · obtain rfl : i = n := by omega
      rw [List.getElem?_append_right (by omega), hlen, show i * 16 + j - i * 16 = j by omega]
      rw [Array.getElem?_toList]
      exact rC_get 16 (K i) j hj
theorem gC_congr {n : Nat} {K L : Nat → Nat → Nat} (h : ∀ i, i < n → ∀ j, j < 16 → K i j = L i j) : gC n K = gC n L := by
  unfold gC
  rw [List.flatMap_def, List.flatMap_def, List.map_congr_left fun i hi => by rw [rC_congr (h i (List.mem_range.1 hi))]]
theorem elemG : ElemT Tryz.prog 114 119 16 (.agg (rC 16 fun _ => 0)) := ElemT.mk' (b := 16) Tryz.underlying114 (by kernel_rfl) (by show (rC 16 fun _ => 0).size = 16; exact rC_size _ _) (by decide) (by decide)
/-- A list of blocks that the call owns. -/
def GL (W : World) (B : Nat) (v : Value) (n : Nat) (K : Nat → Nat → Nat) : Prop := W.ownsRow B 119 16 v n (gC n K)
theorem GL.row {W : World} {B n : Nat} {v : Value} {K : Nat → Nat → Nat} (h : GL W B v n K) (hn : 0 < n) : ∃ g c cur, v = .slice (some ⟨g, 0, none⟩) n c ∧ n ≤ c ∧ B ≤ g ∧ KR W g n K ∧ W.heap[g]? = some (.cells cur 119 (0, 0)) ∧ ∀ i, W.frozen? ⟨g, i, none⟩ = false := by
  have hcells := fun g hg => World.ownsRow.cells h (g := g) hg
  have hown := h
  obtain ⟨h1, h2⟩ := h
  rcases h2 with ⟨rfl, h0⟩ | ⟨g, cap, cur, rfl, e2, e3, e4, e5, e6, e7⟩
  · omega
  · refine ⟨g, cap, cur, rfl, e4, e2, ⟨(Array.getElem?_eq_some_iff.1 e3).1, fun i hi j hj => ?_⟩, e3, fun i => World.ownsRow.frozenAt hown i⟩
    have := hcells g rfl (i * 16 + j) _ (gC_get K n i j hi hj)
    unfold Addr.add at this
    by_cases hz : i * 16 + j = 0
    · rw [if_pos hz] at this; rw [hz]; exact this
    · rw [if_neg hz, Nat.zero_add] at this; exact this
theorem GL.mono {W : World} {B B' n : Nat} {v : Value} {K : Nat → Nat → Nat} (h : GL W B v n K) (hB : B' ≤ B) : GL W B' v n K := by
  obtain ⟨h1, h2⟩ := h
  refine ⟨h1, ?_⟩
  rcases h2 with h2 | ⟨g, cap, cur, e1, e2, e3⟩
  · exact .inl h2
  · exact .inr ⟨g, cap, cur, e1, Nat.le_trans hB e2, e3⟩
theorem GL.congr {W : World} {B n : Nat} {v : Value} {K L : Nat → Nat → Nat} (h : GL W B v n K) (e : ∀ i, i < n → ∀ j, j < 16 → K i j = L i j) : GL W B v n L := by
  unfold GL; rw [← gC_congr e]; exact h
theorem run_buildG (f : Nat → Nat) (W : World) : (Instr.buildSlice 114 1 #[(0, .agg (rC 16 f))]).run Tryz.prog W = .ok (.slice (some ⟨W.heap.size, 0, none⟩) 1 1) (W.alloc (.cells (rC 16 f) 119)) := by
  obtain ⟨i, b, hi, hz, hsz, hb, hb'⟩ := elemG.info
  refine run_buildSlice W 114 119 1 _ (rC 16 f) i _ elemG.under hi hz (by rw [hsz]; decide) (by rw [hsz]; decide) ?_
  rw [hsz]
  have h := Great.fill_whole (s := 16) (by decide) [.agg (rC 16 f)] ((Array.range (1 * 16)).map (fun x => ((Value.agg (rC 16 fun _ => 0)).cells)[x % ((Value.agg (rC 16 fun _ => 0)).cells).size]!)) (by intro v hv; simp at hv; subst hv; exact rC_size _ _) (by simp)
  have e1 : ([Value.agg (rC 16 f)].flatMap fun v => v.cells.toList).toArray = rC 16 f := by simp [Value.cells]
  rw [e1] at h
  exact h
theorem wp_buildG {o : Oper} {a : Act} {w : World} {K : Act → World → Prop} {Q : Exit → Act → World → Prop} (x : Operand) (f : Nat → Nat) (ho : o.op = .buildSlice 114 1 #[(0, x)]) (hx : a.eval x = .agg (rC 16 f))
    (h : K (a.put o.dst (.slice (some ⟨w.heap.size, 0, none⟩) 1 1)) (w.alloc (.cells (rC 16 f) 119))) : o.wp Tryz.prog a w K Q := by
  unfold Oper.wp execOp
  have e : (#[(0, x)] : Array (Nat × Operand)).map (fun (i, y) => (i, a.eval y)) = #[(0, .agg (rC 16 f))] := by simp [hx]
  simp only [ho, e, Sem.run_bind, run_buildG f w, Result.andThen_ok]
  exact h
theorem wpList_buildG {ops : Array Oper} {rest : List Oper} {o : Oper} {a : Act} {w : World} {Q : Exit → Act → World → Prop} (hg : o.guard = none) (x : Operand) (f : Nat → Nat) (ho : o.op = .buildSlice 114 1 #[(0, x)]) (hx : a.eval x = .agg (rC 16 f))
    (h : wpList Tryz.prog ops Q rest (a.put o.dst (.slice (some ⟨w.heap.size, 0, none⟩) 1 1)) (w.alloc (.cells (rC 16 f) 119))) : wpList Tryz.prog ops Q (o :: rest) a w :=
  wpList_plain hg fun _ hK => wp_buildG x f ho hx (hK _ _ h)
theorem aggC : AggT Tryz.prog 116 2 := ⟨fun w => by kernel_rfl, fun w => by kernel_rfl⟩
theorem yieldsIf_load_at {P : Program} {ops : Array Oper} {S : World → Prop} {o : Oper} {a : Act} {ty : TypeId} {n : Nat} (h : AggT P ty n) (hgd : o.guard = none) (x : Operand) (ho : o.op = .load ty x)
    (ad : Addr) (hx : a.eval x = .pointer (some ad)) (cs : Array Value) (hn : cs.size = n) (hc : ∀ w, S w → ∀ j, j < n → w.cell? (ad.add j) = cs[j]?) : YieldsIf P ops S o (.agg cs) a :=
  Or.inl ⟨by simp [Region.wanted, hgd], fun w hS => by
    unfold execOp
    simp only [ho, hx, Instr.loadAt, Instr.sureAddr, Sem.run_bind, Sem.run_pure, Result.andThen_ok, run_load_at h w ad cs hn (hc w hS)]⟩
/-- A cipher that lies in a block of its own. -/
def CB (W : World) (gc gt : Nat) (v : Value) : Prop := W.heap[gc]? = some (.cells #[.pointer (some ⟨gt, 0, none⟩), v] 116 (0, 0))
section
variable {W W' : World} {gc gt : Nat} {v : Value}
theorem CB.lt (h : CB W gc gt v) : gc < W.heap.size := (Array.getElem?_eq_some_iff.1 h).1
theorem CB.later (h : CB W gc gt v) (hb : Below W.heap.size W W') : CB W' gc gt v := by
  unfold CB; rw [hb.block gc h.lt]; exact h
theorem CB.c0 (h : CB W gc gt v) : W.cell? ⟨gc, 0, none⟩ = some (.pointer (some ⟨gt, 0, none⟩)) := by rw [cell_of_row W gc 0 _ _ _ h]; rfl
theorem CB.c1 (h : CB W gc gt v) : W.cell? ⟨gc, 1, none⟩ = some v := by rw [cell_of_row W gc 1 _ _ _ h]; rfl
theorem CB.frozen (h : CB W gc gt v) (i : Nat) : W.frozen? ⟨gc, i, none⟩ = false := frozen_of_row W gc i _ _ h
theorem CB.row (h : CB W gc gt v) : ∀ j, j < 2 → W.cell? ((⟨gc, 0, none⟩ : Addr).add j) = (#[.pointer (some ⟨gt, 0, none⟩), v] : Array Value)[j]? := by
  intro j hj
  have : j = 0 ∨ j = 1 := by omega
  rcases this with rfl | rfl
  · exact h.c0
  · exact h.c1
theorem CB.set (h : CB W gc gt v) (u : Value) : CB (W.setCell ⟨gc, 1, none⟩ u) gc gt u := by
  unfold CB; rw [heap_setCell_same W gc 1 _ _ u h]; rfl
theorem CB.ne_grid {g : Nat} {cur : Array Value} (h : CB W gc gt v) (hg : W.heap[g]? = some (.cells cur 119 (0, 0))) : gc ≠ g := by
  intro e
  subst e
  rw [h] at hg
  have := congrArg (fun o => match o with | some (Obj.cells _ t _) => t | _ => 0) hg
  simp at this
end
/-- What lies where while the keys are made. -/
structure CS (w W : World) (gc gt n : Nat) (v : Value) (K : Nat → Nat → Nat) : Prop where
  bel : Below w.heap.size w W
  res : W.heap[w.heap.size]? = some (.cells #[.pointer none, .slice none 0 0] 116 (0, 0))
  box : CB W gc gt v
  tab : RB W gt 512 171 (tabF 255)
  own : GL W w.heap.size v n K
  gcb : w.heap.size < gc
section
variable {w W W' W2 : World} {gc gt n : Nat} {v : Value} {K : Nat → Nat → Nat}
theorem CS.later (s : CS w W gc gt n v K) (hb : Below W.heap.size W W') : CS w W' gc gt n v K :=
  ⟨below_later s.bel hb, by rw [hb.block _ (Array.getElem?_eq_some_iff.1 s.res).1]; exact s.res, s.box.later hb, RBlater s.tab hb, owns_below s.own hb, s.gcb⟩
theorem CS.congrK {L : Nat → Nat → Nat} (s : CS w W gc gt n v K) (e : ∀ i, i < n → ∀ j, j < 16 → K i j = L i j) : CS w W gc gt n v L := ⟨s.bel, s.res, s.box, s.tab, s.own.congr e, s.gcb⟩
theorem CS.grew {g : Nat} {c : Nat} {v' : Value} {x : Nat → Nat} (s : CS w W gc gt n (.slice (some ⟨g, 0, none⟩) n c) K) (hn : 0 < n) (G : Grew W W' w.heap.size 119 16 g n 1 v' (gC n K) (rC 16 x).toList) :
    CS w (W'.setCell ⟨gc, 1, none⟩ v') gc gt (n + 1) v' (fun i => if i = n then x else K i) := by
  obtain ⟨g', c', cur, hu, hc, hg, R, hh, hz⟩ := s.own.row hn
  have hu2 : g = g' ∧ c = c' := by simpa using hu
  obtain ⟨rfl, rfl⟩ := hu2
  obtain ⟨_, _, _, _, h5⟩ := G.by_
  have hgl := R.lt
  have ne1 := s.box.ne_grid hh
  have ne2 : w.heap.size ≠ g := by
    intro e
    rw [← e] at hh
    rw [s.res] at hh
    have := congrArg (fun o => match o with | some (Obj.cells _ t _) => t | _ => 0) hh
    simp at this
  have ne3 : gt ≠ g := by
    intro e
    rw [← e] at hh
    have ht : W.heap[gt]? = _ := s.tab
    rw [ht] at hh
    have := congrArg (fun o => match o with | some (Obj.cells _ t _) => t | _ => 0) hh
    simp at this
  have hgt : gt ≠ gc := by
    intro e
    have ht : W.heap[gt]? = _ := s.tab
    have hbx : W.heap[gc]? = _ := s.box
    rw [e, hbx] at ht
    have := congrArg (fun o => match o with | some (Obj.cells _ t _) => t | _ => 0) ht
    simp at this
  have b1 : CB W' gc gt (.slice (some ⟨g, 0, none⟩) n c) := by unfold CB; rw [h5 gc s.box.lt (by simp; exact ne1)]; exact s.box
  have hne' : some gc ≠ v'.ownBlock := by
    rcases G.blk with e | e <;> rw [e] <;> simp
    · exact ne1
    · have := s.box.lt; omega
  refine ⟨(grown_below G.by_ s.bel.size (fun k hk => by simp at hk; omega) |> fun h => s.bel.trans h).setCell (by have := s.gcb; show w.heap.size ≤ gc; omega) _, ?_, b1.set v', ?_, ?_, s.gcb⟩
  · rw [heap_setCell_other _ ⟨gc, 1, none⟩ _ _ (by have := s.gcb; show w.heap.size ≠ gc; omega), h5 _ (Array.getElem?_eq_some_iff.1 s.res).1 (by simp; exact ne2)]; exact s.res
  · refine RB.other ?_ _ _ _ (Ne.symm hgt)
    unfold RB; rw [h5 gt s.tab.lt (by simp; exact ne3)]; exact s.tab
  · have ho := G.own
    have e1 : gC n K ++ (rC 16 x).toList = gC (n + 1) (fun i => if i = n then x else K i) := by
      rw [gC_succ, if_pos rfl]
      congr 1
      exact gC_congr (fun i hi j hj => by rw [if_neg (by omega)])
    rw [e1] at ho
    refine World.ownsRow.kept ho (row := some gc) ⟨rfl, rfl, rfl, by simp, fun k _ hk => heap_setCell_other _ ⟨gc, 1, none⟩ _ _ (fun e => hk (by simp [e]))⟩ (.inr (fun e => hne' e.symm))
end
end Go.Proofs.YtefmmopkikpnhaaGreatDoor

namespace Go.Proofs.YtefmmopkikpnhaaGreatDoor
open Go.RowKit Go.LatT Go.BlockM Go.PlainAid Go.OpnT Go.ApdG Go.BytM Go.AesM Go.RowQ Go.RegH
set_option linter.unusedVariables false
set_option linter.unusedSimpArgs false
theorem sizeC : (Tryz.prog.info? 116).map (·.size) = some 2 := by kernel_rfl
theorem oneC (p : Option Addr) (a : Option Addr) (n c : Nat) : (#[Value.pointer p, Value.slice a n c] : Array Value).all (·.oneCell') = true := by
  rw [Array.all_eq_true_iff_forall_mem]
  intro x hx
  simp at hx
  rcases hx with rfl | rfl <;> rfl
/-- What making keys ready answers. -/
def CipP (w : World) (f : Nat → Nat) (e : Ending) (w' : World) : Prop := ∃ gt gk cap, e = .returned (.agg #[.pointer (some ⟨gt, 0, none⟩), .slice (some ⟨gk, 0, none⟩) 11 cap]) ∧ RB w' gt 512 171 (tabF 255) ∧ KR w' gk 11 (KS f) ∧ Below w.heap.size w w'
set_option maxHeartbeats 4000000 in
set_option maxRecDepth 100000 in
theorem cipherOf_ok (s : ByteArray) (w : World) (h : s.size = 16) :
    Calls Tryz.prog 97 #[.string s] w fun e w' => CipP w (bn s) e w' := by
  have hf : By 16 (bn s) := fun i _ => bn_lt s i
  go_enter Tryz.func97, Tryz.ntmps97
  go_wp2_with fail
  refine (newTable_any _).mono ?_
  rintro e w1 ⟨gt, rfl, hgt, T1, hb1⟩
  have HT1 := hid_in T1; have HB1 := hid_in hb1
  have R0 : Hid ((w.alloc (.cells #[.pointer none, .slice none 0 0] 116)).heap[w.heap.size]? = some (.cells #[.pointer none, .slice none 0 0] 116 (0, 0))) := heap_alloc_new w _
  have Z0 := hid_in (below_box w (.cells #[.pointer none, .slice none 0 0] 116))
  have S0 : (w.alloc (.cells #[.pointer none, .slice none 0 0] 116)).heap.size = w.heap.size + 1 := by simp
  clear T1 hb1
  go_wp2_with fail
  refine (gridOf_ok s _ h).mono ?_
  rintro e w2 ⟨rfl, hb2⟩
  have HB2 := hid_in hb2
  clear hb2
  go_wp2_with (first | (refine wpList_buildG rfl (.tmp 8) (bn s) rfl rfl ?_))
  have C0 : Hid (CS w ((w2.alloc (.cells (rC 16 (bn s)) 119)).alloc (.cells #[.pointer (some ⟨gt, 0, none⟩), .slice (some ⟨w2.heap.size, 0, none⟩) 1 1] 116)) (w2.heap.size + 1) gt 1 (.slice (some ⟨w2.heap.size, 0, none⟩) 1 1) (KS (bn s))) := by
    have z1 := HB1.out.size
    have z2 := HB2.out.size
    rw [S0] at z1
    have b2 : Below w.heap.size w w2 := below_later (below_later Z0.out HB1.out) HB2.out
    refine ⟨(b2.alloc b2.size _).alloc (by simp; omega) _, ?_, ?_, ?_, ?_, by omega⟩
    · rw [heap_alloc_old _ _ (by simp; omega), heap_alloc_old _ _ (by omega), HB2.out.block _ (by omega), HB1.out.block _ (by rw [S0]; omega)]; exact R0.out
    · have := heap_alloc_new (w2.alloc (.cells (rC 16 (bn s)) 119)) (.cells #[.pointer (some ⟨gt, 0, none⟩), .slice (some ⟨w2.heap.size, 0, none⟩) 1 1] 116)
      simp only [World.size_alloc] at this
      exact this
    · exact RBlater (RBlater (RBlater HT1.out HB2.out) (below_box _ _)) (below_box _ _)
    · have h := World.ownsRow_lit (base := w.heap.size) (e := 119) (size := 16) w2 (rC 16 (bn s)) 1 b2.size (by unfold maxLen; omega) (by rw [rC_size])
      have e1 : (rC 16 (bn s)).toList = gC 1 (KS (bn s)) := by simp [gC]; rfl
      rw [e1] at h
      exact h.alloc _
  generalize ((w2.alloc (.cells (rC 16 (bn s)) 119)).alloc (.cells #[.pointer (some ⟨gt, 0, none⟩), .slice (some ⟨w2.heap.size, 0, none⟩) 1 1] 116)) = W0 at *
  generalize w2.heap.size + 1 = gc at *
  have C1 : ∃ v, v = Value.slice (some ⟨w2.heap.size, 0, none⟩) 1 1 ∧ Hid (CS w W0 gc gt 1 v (KS (bn s))) := ⟨_, rfl, C0⟩
  obtain ⟨v0, _, C2⟩ := C1
  clear C0 HB1 HB2 R0 Z0 S0 HT1 hgt
  go_loopw [4, 11] (fun f v wr => ∃ k : Nat, k ≤ 10 ∧ v = .int .i64 (k : Int) ∧ f = .int .u8 ((rc k : Nat) : Int) ∧ ∃ u, Hid (CS w wr gc gt (k + 1) u (KS (bn s)))) (fun _ v _ => 10 - (intOf v).toNat)
  case atStart => exact ⟨0, by omega, rfl, rfl, _, C2⟩
  case round =>
    obtain ⟨k, hk, rfl, rfl, u, HW⟩ := hrel
    obtain ⟨gk, c, cur, rfl, hc, hgk, RR, hh, hz⟩ := HW.out.own.row (by omega)
    have HK := hid_in RR
    clear RR hz
    by_cases hlt : k < 10
    · have HL := hid_in hlt
      have q1 : (k : Int) < 10 := by omega
      have q2 : (k : Int) < (k : Int) + 1 := by omega
      go_wp2_with fail
      refine wp_region_held_tail (S := fun w' => CB w' gc gt (.slice (some ⟨gk, 0, none⟩) (k + 1) c) ∧ KR w' gk (k + 1) (KS (bn s))) (by kernel_rfl) (by dsimp only [List.dropLast]) (by exact rfl) (by kernel_rfl) ?_
      simp only [List.cons_append, List.nil_append]
      have H0 : CB wr.drew gc gt (.slice (some ⟨gk, 0, none⟩) (k + 1) c) ∧ KR wr.drew gk (k + 1) (KS (bn s)) := ⟨HW.out.box, ⟨HK.out.lt, HK.out.cell⟩⟩
      refine wpAnyH_take (i := 0) (oi := { dst := some 14, op := Op.fieldAddr 116 (Operand.tmp 3) 1, type := 0, pos := "l6_aes.go:144", after := #[], guard := none }) (v := .pointer (some ⟨gc, 1, none⟩)) rfl (by kernel_rfl) (by kernel_rfl) (by kernel_rfl) (fun _ _ _ h => h) (Or.inl ⟨by rfl, ?_⟩) H0 ?_
      · intro w hw
        go_simp
      try simp only [Act.put, List.setIfInBounds_toArray, List.set_cons_zero, List.set_cons_succ]
      refine wpAnyH_take (i := 1) (oi := { dst := some 15, op := Op.load 114 (Operand.tmp 14), type := 114, pos := "l6_aes.go:144", after := #[{ on := 0, ground := Ground.data }], guard := none }) (v := .slice (some ⟨gk, 0, none⟩) (k + 1) c) rfl (by kernel_rfl) (by kernel_rfl) (by kernel_rfl) (fun _ _ _ h => h) (Or.inl ⟨by rfl, ?_⟩) H0 ?_
      · intro w hw
        have hc1 := hw.1.c1
        go_simp
      try simp only [Act.put, List.setIfInBounds_toArray, List.set_cons_zero, List.set_cons_succ]
      refine wpAnyH_take (i := 2) (oi := { dst := some 16, op := Op.load 116 (Operand.tmp 3), type := 116, pos := "l6_aes.go:144", after := #[], guard := none }) (v := .agg #[.pointer (some ⟨gt, 0, none⟩), .slice (some ⟨gk, 0, none⟩) (k + 1) c]) rfl (by kernel_rfl) (by kernel_rfl) (by kernel_rfl) (fun _ _ _ h => h) (yieldsIf_load_at aggC rfl (.tmp 3) rfl ⟨gc, 0, none⟩ rfl #[.pointer (some ⟨gt, 0, none⟩), .slice (some ⟨gk, 0, none⟩) (k + 1) c] rfl (fun w hw => hw.1.row)) H0 ?_
      try simp only [Act.put, List.setIfInBounds_toArray, List.set_cons_zero, List.set_cons_succ]
      refine wpAnyH_take (i := 3) (oi := { dst := some 17, op := Op.fieldAddr 116 (Operand.tmp 3) 1, type := 0, pos := "l6_aes.go:144", after := #[], guard := none }) (v := .pointer (some ⟨gc, 1, none⟩)) rfl (by kernel_rfl) (by kernel_rfl) (by kernel_rfl) (fun _ _ _ h => h) (Or.inl ⟨by rfl, ?_⟩) H0 ?_
      · intro w hw
        go_simp
      try simp only [Act.put, List.setIfInBounds_toArray, List.set_cons_zero, List.set_cons_succ]
      refine wpAnyH_take (i := 4) (oi := { dst := some 18, op := Op.load 114 (Operand.tmp 17), type := 114, pos := "l6_aes.go:144", after := #[{ on := 3, ground := Ground.data }], guard := none }) (v := .slice (some ⟨gk, 0, none⟩) (k + 1) c) rfl (by kernel_rfl) (by kernel_rfl) (by kernel_rfl) (fun _ _ _ h => h) (Or.inl ⟨by rfl, ?_⟩) H0 ?_
      · intro w hw
        have hc1 := hw.1.c1
        go_simp
      try simp only [Act.put, List.setIfInBounds_toArray, List.set_cons_zero, List.set_cons_succ]
      refine wpAnyH_take (i := 5) (oi := { dst := some 19, op := Op.move (Operand.tmp 5), type := 3, pos := "l6_aes.go:144", after := #[], guard := none }) (v := .int .i64 (k : Int)) rfl (by kernel_rfl) (by kernel_rfl) (by kernel_rfl) (fun _ _ _ h => h) (Or.inl ⟨by rfl, ?_⟩) H0 ?_
      · intro w hw
        go_simp
      try simp only [Act.put, List.setIfInBounds_toArray, List.set_cons_zero, List.set_cons_succ]
      refine wpAnyH_take (i := 6) (oi := { dst := some 20, op := Op.indexAddr 114 (Operand.tmp 18) (Operand.tmp 19), type := 0, pos := "l6_aes.go:144", after := #[{ on := 4, ground := Ground.data }, { on := 5, ground := Ground.data }], guard := none }) (v := .pointer (some ⟨gk, k * 16, none⟩)) rfl (by kernel_rfl) (by kernel_rfl) (by kernel_rfl) (fun _ _ _ h => h) (Or.inl ⟨by rfl, ?_⟩) H0 ?_
      · intro w hw
        go_simp
      try simp only [Act.put, List.setIfInBounds_toArray, List.set_cons_zero, List.set_cons_succ]
      refine wpAnyH_take (i := 7) (oi := { dst := some 21, op := Op.load 119 (Operand.tmp 20), type := 119, pos := "l6_aes.go:144", after := #[{ on := 6, ground := Ground.data }], guard := none }) (v := .agg (rC 16 (KS (bn s) k))) rfl (by kernel_rfl) (by kernel_rfl) (by kernel_rfl) (fun _ _ _ h => h) (yieldsIf_load_at aggG rfl (.tmp 20) rfl ⟨gk, k * 16, none⟩ rfl (rC 16 (KS (bn s) k)) (rC_size _ _) (fun w hw => hw.2.row k (by omega))) H0 ?_
      try simp only [Act.put, List.setIfInBounds_toArray, List.set_cons_zero, List.set_cons_succ]
      refine wpAnyH_take (i := 8) (oi := { dst := some 22, op := Op.move (Operand.tmp 4), type := 5, pos := "l6_aes.go:144", after := #[], guard := none }) (v := .int .u8 ((rc k : Nat) : Int)) rfl (by kernel_rfl) (by kernel_rfl) (by kernel_rfl) (fun _ _ _ h => h) (Or.inl ⟨by rfl, ?_⟩) H0 ?_
      · intro w hw
        go_simp
      try simp only [Act.put, List.setIfInBounds_toArray, List.set_cons_zero, List.set_cons_succ]
      refine wpAnyH_ready (rs := [9]) (by kernel_rfl) (by simp) ?_
      refine AllReadyH.cons (o := { dst := some 23, op := Op.call { callee := Callee.value (Operand.func 146), args := #[Operand.tmp 16, Operand.tmp 21, Operand.tmp 22], argTypes := #[116, 119, 5] }, type := 119, pos := "l6_aes.go:144", after := #[{ on := 2, ground := Ground.data }, { on := 7, ground := Ground.data }, { on := 8, ground := Ground.data }], guard := none }) rfl (fun K' hK' => ?_) AllReadyH.nil
      go_simp
      refine (nextKey_any gt (rc k) _ (KS (bn s) k) _ (show RB wr.drew gt 512 171 (tabF 255) from HW.out.tab) (KS_by hf k) (rc_lt k)).mono ?_
      rintro e w5 ⟨rfl, hb5⟩
      have HB5 := hid_in hb5
      clear hb5
      have H5 : CB w5 gc gt (.slice (some ⟨gk, 0, none⟩) (k + 1) c) ∧ KR w5 gk (k + 1) (KS (bn s)) := ⟨H0.1.later HB5.out, H0.2.later HB5.out⟩
      refine hK'.out _ _ H5 (fun _ => ?_)
      clear hK' K'
      try simp only [Act.put, List.setIfInBounds_toArray, List.set_cons_zero, List.set_cons_succ]
      refine wpAnyH_ready (rs := [10]) (by kernel_rfl) (by simp) ?_
      refine AllReadyH.cons (o := { dst := some 24, op := Op.buildSlice 114 1 #[(0, Operand.tmp 23)], type := 114, pos := "l6_aes.go:144", after := #[{ on := 9, ground := Ground.data }], guard := none }) rfl (fun K' hK' => ?_) AllReadyH.nil
      rw [if_pos (by rfl)]
      refine wp_buildG (.tmp 23) (nk (KS (bn s) k) (rc k)) rfl rfl ?_
      have H6 : CB (w5.alloc (.cells (rC 16 (nk (KS (bn s) k) (rc k))) 119)) gc gt (.slice (some ⟨gk, 0, none⟩) (k + 1) c) ∧ KR (w5.alloc (.cells (rC 16 (nk (KS (bn s) k) (rc k))) 119)) gk (k + 1) (KS (bn s)) := ⟨H5.1.later (below_box _ _), H5.2.later (below_box _ _)⟩
      refine hK'.out _ _ H6 (fun _ => ?_)
      clear hK' K'
      try simp only [Act.put, List.setIfInBounds_toArray, List.set_cons_zero, List.set_cons_succ]
      have C5 := hid_in ((CS.later (W' := w5) (⟨HW.out.bel.drew, HW.out.res, HW.out.box, HW.out.tab, HW.out.own, HW.out.gcb⟩ : CS w wr.drew gc gt (k + 1) (.slice (some ⟨gk, 0, none⟩) (k + 1) c) (KS (bn s))) HB5.out).later (below_box _ (.cells (rC 16 (nk (KS (bn s) k) (rc k))) 119)))
      refine wpAnyH_ready (rs := [11]) (by kernel_rfl) (by simp) ?_
      refine AllReadyH.cons (o := { dst := some 25, op := Op.call { callee := Callee.builtin Builtin.append, args := #[Operand.tmp 15, Operand.tmp 24], argTypes := #[114, 114] }, type := 114, pos := "l6_aes.go:144", after := #[{ on := 1, ground := Ground.data }, { on := 10, ground := Ground.data }, { on := 9, ground := Ground.chain }], guard := none }) rfl (fun K' hK' => ?_) AllReadyH.nil
      rw [if_pos (by rfl)]
      refine wpK1 elemG (.tmp 15) (.tmp 24) rfl w.heap.size gk (k + 1) c (gC (k + 1) (KS (bn s))) rfl C5.out.own ⟨w5.heap.size, 0, none⟩ 1 1 (rC 16 (nk (KS (bn s) k) (rc k))).toList rfl (by rw [Array.length_toList, rC_size]) (fun j u hj => by have := cells_new w5 (rC 16 (nk (KS (bn s) k) (rc k))).toList 119 j u hj; simpa using this) (fun u hu => by have := rC_one 16 (nk (KS (bn s) k) (rc k)); rw [Array.all_eq_true_iff_forall_mem] at this; exact this u (by simpa using hu)) (by omega) C5.out.bel.size ?_
      intro v7 w7 G7
      have HG := hid_in G7
      have H7 : CB w7 gc gt (.slice (some ⟨gk, 0, none⟩) (k + 1) c) ∧ KR w7 gk (k + 1) (KS (bn s)) := by
        have h5 := G7.by_.5
        obtain ⟨_, _, cur, hu, _, _, R, hh, _⟩ := C5.out.own.row (by omega)
        have hu2 := by simpa using hu
        obtain ⟨rfl, rfl⟩ := hu2
        have ne1 := C5.out.box.ne_grid hh
        refine ⟨?_, Nat.lt_of_lt_of_le R.lt G7.by_.4, fun i hi j hj => ?_⟩
        · unfold CB; rw [h5 gc C5.out.box.lt (by simp; exact ne1)]; exact C5.out.box
        · have := G7.old (i * 16 + j) _ (gC_get (KS (bn s)) (k + 1) i j hi hj)
          unfold Addr.add at this
          by_cases hz : i * 16 + j = 0
          · rw [if_pos hz] at this; rw [hz]; exact this
          · rw [if_neg hz, Nat.zero_add] at this; exact this
      clear G7
      refine hK'.out _ _ H7 (fun _ => ?_)
      clear hK' K'
      try simp only [Act.put, List.setIfInBounds_toArray, List.set_cons_zero, List.set_cons_succ]
      refine wpAnyH_take (i := 12) (oi := { dst := some 26, op := Op.fieldAddr 116 (Operand.tmp 3) 1, type := 0, pos := "l6_aes.go:144", after := #[{ on := 0, ground := Ground.phase }, { on := 1, ground := Ground.phase }, { on := 2, ground := Ground.phase }, { on := 3, ground := Ground.phase }, { on := 4, ground := Ground.phase }, { on := 5, ground := Ground.phase }, { on := 6, ground := Ground.phase }, { on := 7, ground := Ground.phase }, { on := 8, ground := Ground.phase }, { on := 9, ground := Ground.phase }, { on := 10, ground := Ground.phase }, { on := 11, ground := Ground.phase }], guard := none }) (v := .pointer (some ⟨gc, 1, none⟩)) rfl (by kernel_rfl) (by kernel_rfl) (by kernel_rfl) (fun _ _ _ h => h) (Or.inl ⟨by rfl, ?_⟩) H7 ?_
      · intro w hw
        go_simp
      try simp only [Act.put, List.setIfInBounds_toArray, List.set_cons_zero, List.set_cons_succ]
      refine wpAnyH_take (i := 13) (v := .bool true) rfl (by kernel_rfl) (by kernel_rfl) (by kernel_rfl) (fun _ _ _ h => h) (Or.inl ⟨by rfl, fun w _ => by unfold execOp; rfl⟩) H7 ?_
      simp only [blanked, Act.put]
      refine wpAnyH_done (by kernel_rfl) ?_ _
      have C8 := hid_in ((C5.out.grew (by omega) HG.out).congrK (L := KS (bn s)) (fun i hi => by
        by_cases e : i = k + 1
        · rw [if_pos e, e]; intro j _; rfl
        · rw [if_neg e]; intro j _; rfl))
      obtain ⟨g8, c8, cur8, rfl, _, _, _, _, _⟩ := C8.out.own.row (by omega)
      have k1 := H7.1.c1
      have k2 := H7.1.frozen 1
      clear H0 H5 H6 H7 HB5 C5 HW HK hh HG
      show wpList _ _ _ _ _ _
      go_wp2_with fail
      refine (times_any (rc k) 2 _ (rc_lt k) (by omega)).mono ?_
      rintro e w9 ⟨rfl, rfl⟩
      rw [show mul (rc k) 2 = rc (k + 1) from mul_two ⟨rc k, rc_lt k⟩]
      go_wp2_with fail
      exact ⟨⟨k + 1, HL.out, by simp, rfl, _, C8⟩, by have := HL.out; simp [intOf]; omega⟩
    · obtain rfl : k = 10 := by omega
      have q1 : ¬ (10 : Int) < 10 := by omega
      have B := hid_in HW.out.box
      have R := hid_in HW.out.res
      go_wp2_with (first | (refine wpList_load_row rfl 116 _ rfl gc rfl 116 _ (0, 0) _ B.out Tryz.underlying116 rfl sizeC ?_) | (refine wpList_store_row rfl 116 _ _ rfl w.heap.size _ rfl rfl 116 _ R.out sizeC rfl (oneC _ _ _ _) ?_))
      refine bodyPost_ret (v := .agg #[.pointer (some ⟨gt, 0, none⟩), .slice (some ⟨gk, 0, none⟩) 11 c]) (results_cell_row Tryz.results97 _ _ w.heap.size 116 _ (0, 0) _ rfl (setRow_at R.out) Tryz.underlying116 rfl sizeC) rfl ?_
      have hgt : gt ≠ w.heap.size := by
        intro e
        have ht : wr.heap[gt]? = _ := HW.out.tab
        rw [e, R.out] at ht
        have := congrArg (fun o => match o with | some (Obj.cells _ t _) => t | _ => 0) ht
        simp at this
      have hgk2 : gk ≠ w.heap.size := by
        intro e
        rw [e, R.out] at hh
        have := congrArg (fun o => match o with | some (Obj.cells _ t _) => t | _ => 0) hh
        simp at this
      refine ⟨gt, gk, c, rfl, ?_, ⟨?_, fun i hi j hj => ?_⟩, Below_setRow HW.out.bel (Nat.le_refl _)⟩
      · unfold RB; rw [setRow_other hgt]; exact HW.out.tab
      · simpa [World.setRow] using HK.out.lt
      · have := HK.out.cell i hi j hj
        unfold World.cell? at this ⊢
        rw [setRow_other hgk2]
        exact this
end Go.Proofs.YtefmmopkikpnhaaGreatDoor

namespace Go.Proofs.YtefmmopkikpnhaaGreatDoor
open Go.RowKit Go.LatT Go.BlockM Go.PlainAid Go.OpnT Go.ApdG Go.BytM Go.AesM Go.RowQ Go.RegH
set_option linter.unusedVariables false
set_option linter.unusedSimpArgs false
/-- What throwing answers. -/
def PanP (w : World) (e : Ending) (w' : World) : Prop := (∃ u pv, e = .panicked [{ v := .iface u pv, recovered := false }]) ∧ Below w.heap.size w w'
set_option maxHeartbeats 1000000 in
set_option maxRecDepth 100000 in
theorem cipherOf_no (s : ByteArray) (w : World) (h : s.size ≠ 16) (hs : s.size ≤ 1048576) :
    Calls Tryz.prog 97 #[.string s] w fun e w' => PanP w e w' := by
  go_enter Tryz.func97, Tryz.ntmps97
  go_wp2_with fail
  refine (newTable_any _).mono ?_
  rintro e w1 ⟨gt, rfl, hgt, T1, hb1⟩
  have HB1 := hid_in hb1
  have Z0 := hid_in (below_box w (.cells #[.pointer none, .slice none 0 0] 116))
  clear T1 hb1
  go_wp2_with fail
  refine (gridOf_no s _ h hs).mono ?_
  rintro e w2 ⟨⟨u, pv, rfl⟩, hb2⟩
  have HB2 := hid_in hb2
  clear hb2
  go_wp2_with fail
  unfold bodyPost
  exact ⟨rfl, ⟨_, _, rfl⟩, below_later (below_later Z0.out HB1.out) HB2.out⟩
set_option maxHeartbeats 1000000 in
set_option maxRecDepth 100000 in
theorem orEmpty_ok (F : Nat) (cap : Array Value) (x : ByteArray) (w : World) (hcf : ∀ W : World, (callFunc F cap).run Tryz.prog W = .ok (.enter F cap) W) (hF : ∀ W, Below w.heap.size w W → Calls Tryz.prog F cap W fun e w' => e = .returned (.string x) ∧ Below W.heap.size W w') :
    Calls Tryz.prog 95 #[.func (.func F) #[] cap] w fun e w' => e = .returned (.string x) ∧ Below w.heap.size w w' := by
  have hmf : ∀ (fn : Fn) (first cap : Array Value) (w : World), (Instr.makeFunc fn first cap).run Tryz.prog w = .ok (.func fn first cap) w := fun _ _ _ _ => rfl
  have HF := hid_in (hF _ (below_box w (.cells #[.string ⟨#[]⟩] 9)))
  have c0 := (World.cell? (w.alloc (.cells #[.string ⟨#[]⟩] 9)) ⟨w.heap.size, 0, none⟩)
  have Z0 := hid_in (below_box w (.cells #[.string ⟨#[]⟩] 9))
  have R0 : Hid ((w.alloc (.cells #[.string ⟨#[]⟩] 9)).heap[w.heap.size]? = some (.cells #[.string ⟨#[]⟩] 9 (0, 0))) := heap_alloc_new w _
  have S0 : w.heap.size < (w.alloc (.cells #[.string ⟨#[]⟩] 9)).heap.size := by simp
  clear hF c0
  go_enter_defers Tryz.func95, Tryz.ntmps95
  go_wp2_with fail
  refine HF.out.mono ?_
  rintro e w1 ⟨rfl, hb1⟩
  have HB1 := hid_in hb1
  have k0 := cell_of_row w1 w.heap.size 0 _ _ _ ((hb1.block _ S0).trans R0.out)
  have k1 := frozen_of_row w1 w.heap.size 0 _ _ ((hb1.block _ S0).trans R0.out)
  simp at k0
  clear hb1
  go_wp2_with fail
  refine leaves_cons (f := 144) (args := #[.pointer (some ⟨w.heap.size, 0, none⟩)]) (by simp) (by simp [go_sem]) ?_
  refine (catch_idle ⟨w.heap.size, 0, none⟩ _).mono ?_
  rintro e u' w'' ⟨rfl, rfl, rfl⟩
  simp [Leaves, settle, results, Tryz.results95, go_sem, k0, k1]
  exact (Z0.out.trans (HB1.out.mono (by simp))).setCell (Nat.le_refl _) _
set_option maxHeartbeats 1000000 in
set_option maxRecDepth 100000 in
theorem orEmpty_no (F : Nat) (cap : Array Value) (w : World) (hcf : ∀ W : World, (callFunc F cap).run Tryz.prog W = .ok (.enter F cap) W) (hF : ∀ W, Below w.heap.size w W → Calls Tryz.prog F cap W fun e w' => PanP W e w') :
    Calls Tryz.prog 95 #[.func (.func F) #[] cap] w fun e w' => e = .returned (.string ⟨#[]⟩) ∧ Below w.heap.size w w' := by
  have hmf : ∀ (fn : Fn) (first cap : Array Value) (w : World), (Instr.makeFunc fn first cap).run Tryz.prog w = .ok (.func fn first cap) w := fun _ _ _ _ => rfl
  have HF := hid_in (hF _ (below_box w (.cells #[.string ⟨#[]⟩] 9)))
  have Z0 := hid_in (below_box w (.cells #[.string ⟨#[]⟩] 9))
  have R0 : Hid ((w.alloc (.cells #[.string ⟨#[]⟩] 9)).heap[w.heap.size]? = some (.cells #[.string ⟨#[]⟩] 9 (0, 0))) := heap_alloc_new w _
  have S0 : w.heap.size < (w.alloc (.cells #[.string ⟨#[]⟩] 9)).heap.size := by simp
  clear hF
  go_enter_defers Tryz.func95, Tryz.ntmps95
  go_wp2_with fail
  refine HF.out.mono ?_
  rintro e w1 ⟨⟨u, pv, rfl⟩, hb1⟩
  have HB1 := hid_in hb1
  have k0 := cell_of_row w1 w.heap.size 0 _ _ _ ((hb1.block _ S0).trans R0.out)
  have k1 := frozen_of_row w1 w.heap.size 0 _ _ ((hb1.block _ S0).trans R0.out)
  simp at k0
  clear hb1
  go_wp2_with fail
  refine leaves_cons (f := 144) (args := #[.pointer (some ⟨w.heap.size, 0, none⟩)]) (by simp) (by simp [go_sem]) ?_
  refine (catch_panicking ⟨w.heap.size, 0, none⟩ ⟨#[]⟩ u pv [] _ k0 k1).mono ?_
  rintro e u' w'' ⟨rfl, rfl, rfl⟩
  simp [Leaves, settle, results, Tryz.results95, go_sem, k0, k1]
  exact (Z0.out.trans (HB1.out.mono (by simp))).setCell (Nat.le_refl _) _
end Go.Proofs.YtefmmopkikpnhaaGreatDoor

namespace Go.Proofs.YtefmmopkikpnhaaGreatDoor
open Go.RowKit Go.LatT Go.BlockM Go.PlainAid Go.OpnT Go.ApdG Go.BytM Go.AesM Go.RowQ Go.RegH
set_option linter.unusedVariables false
set_option linter.unusedSimpArgs false
theorem sizeBld : (Tryz.prog.info? 177).map (·.size) = some 2 := by kernel_rfl
theorem liesBld : liesAt Tryz.prog Tryz.prog.depth 177 (2 / Tryz.prog.cellsOf 177) 0 177 1 = true := by kernel_rfl
set_option maxHeartbeats 1000000 in
set_option maxRecDepth 100000 in
theorem checkFresh (b : Nat) (w : World) (h0 : w.cell? ⟨b, 0, none⟩ = some (.pointer none)) (hsh : w.shape? b = some (177, 2)) (hfz : w.frozen? ⟨b, 0, none⟩ = false) :
    Calls Tryz.prog 181 #[.pointer (some ⟨b, 0, none⟩)] w fun e w' => e = .returned (.tuple #[]) ∧ w' = w.setCell ⟨b, 0, none⟩ (.pointer (some ⟨b, 0, none⟩)) := by
  obtain ⟨j, hj, hjs⟩ := Option.map_eq_some_iff.1 sizeBld
  go_enter Tryz.func181, Tryz.ntmps181
  go_wp2
  rw [Lib.run_to_unsafe w ⟨b, 0, none⟩ Tryz.underlying175 Tryz.underlying153 hj (by rw [hjs]; decide) hsh (Nat.zero_lt_succ 1)]
  simp only [Result.andThen]
  rw [Oper.upon_value]
  go_wp2
  rw [run_callFunc_extern Tryz.func188 (by kernel_rfl) (by kernel_rfl) (by kernel_rfl) (e := Extern.AbiNoEscape.same) (by kernel_rfl)]
  rw [Lib.run_noEscape]
  simp only [Result.andThen]
  rw [Oper.upon_value]
  go_wp2
  rw [Lib.run_from_unsafe w ⟨b, 0, none⟩ Tryz.underlying153 Tryz.underlying175 hj hsh liesBld]
  simp only [Result.andThen]
  rw [Oper.upon_value]
  go_wp2
  go_end0
  exact ⟨rfl, rfl⟩
set_option maxHeartbeats 1000000 in
set_option maxRecDepth 100000 in
theorem checkUsed (b : Nat) (w : World) (h0 : w.cell? ⟨b, 0, none⟩ = some (.pointer (some ⟨b, 0, none⟩))) :
    Calls Tryz.prog 181 #[.pointer (some ⟨b, 0, none⟩)] w fun e w' => e = .returned (.tuple #[]) ∧ w' = w := by
  obtain ⟨j, hj, hjs⟩ := Option.map_eq_some_iff.1 sizeBld
  go_enter Tryz.func181, Tryz.ntmps181
  go_wp2
  rw [Lib.run_neq_ptr_same w _ Tryz.underlying175 hj]
  go_wp2
  go_end0
  exact ⟨rfl, rfl⟩
/-- A builder of texts that lies in block b, all that it owns lying from B on. -/
def Bd (w : World) (B b : Nat) (bs : List Value) : Prop := Lib.IsBuilder 177 5 B b bs w
theorem bFacts {B b n : Nat} {bs : List Value} {v v3 : Value} {p : Value} {w1 w3 : World} (hbk : w1.heap[b]? = some (.cells #[p, v] 177 (0, 0))) (hne : v.ownBlock ≠ some b) (o3 : w3.ownsRow B 5 1 v3 n bs) (g3 : w1.grownBy w3 v.ownBlock) :
    ∃ ao n' cap, v3 = .slice ao n' cap ∧ w3.cell? ⟨b, 1, none⟩ = some v ∧ w3.frozen? ⟨b, 1, none⟩ = false ∧ w3.heap[b]? = some (.cells #[p, v] 177 (0, 0)) := by
  have hlt : b < w1.heap.size := (Array.getElem?_eq_some_iff.1 hbk).1
  have hb2 : w3.heap[b]? = some (.cells #[p, v] 177 (0, 0)) := by
    rw [g3.block b hlt (fun e => hne e.symm)]
    exact hbk
  obtain ⟨ao, n', cap, hv⟩ : ∃ ao n' cap, v3 = .slice ao n' cap := by
    rcases o3.2 with ⟨hv, _⟩ | ⟨g, cap, cur, hv, _⟩
    · exact ⟨_, _, _, hv⟩
    · exact ⟨_, _, _, hv⟩
  exact ⟨ao, n', cap, hv, by rw [Lib.cell_of_heap hb2]; rfl, Lib.frozen_of_heap hb2 1, hb2⟩
set_option maxHeartbeats 2000000 in
set_option maxRecDepth 100000 in
theorem bWrite (B b g : Nat) (bs : List Value) (f : Nat → Nat) (w : World) (h : Bd w B b bs) (hg : RB w g 16 119 f) (hlen : bs.length ≤ 1000000) (hBw : B ≤ w.heap.size) :
    Calls Tryz.prog 151 #[.pointer (some ⟨b, 0, none⟩), .slice (some ⟨g, 0, none⟩) 16 16] w fun e w' => e = .returned (.tuple #[.int .i64 16, .nilIface]) ∧ Bd w' B b (bs ++ (rC 16 f).toList) ∧ Below B w w' := by
  have hbg : ∀ v p, w.heap[b]? = some (.cells #[p, v] 177 (0, 0)) → b ≠ g := by
    intro v p hb e
    have hg2 : w.heap[g]? = _ := hg
    rw [← e, hb] at hg2
    have := congrArg (fun o => match o with | some (Obj.cells _ t _) => t | _ => 0) hg2
    simp at this
  have cC : Calls Tryz.prog 181 #[.pointer (some ⟨b, 0, none⟩)] w fun e w' => e = .returned (.tuple #[]) ∧ Lib.BuilderAt 177 5 B b (.pointer (some ⟨b, 0, none⟩)) bs w' ∧ Below B w w' ∧ RB w' g 16 119 f := by
    rcases h with h | h
    · refine (checkFresh b w h.cell0 h.shape h.frozen0).mono ?_
      rintro e w' ⟨rfl, rfl⟩
      obtain ⟨hB, v, hb, _, _⟩ := id h
      exact ⟨rfl, h.used _, (Below.refl B w).setCell (p := ⟨b, 0, none⟩) h.1 _, by unfold RB; rw [heap_setCell_other _ ⟨b, 0, none⟩ _ _ (fun e => hbg v _ hb e.symm)]; exact hg⟩
    · refine (checkUsed b w h.cell0).mono ?_
      rintro e w' ⟨rfl, rfl⟩
      exact ⟨rfl, h, Below.refl B _, hg⟩
  clear hbg
  go_enter Tryz.func151, Tryz.ntmps151
  go_wp2_with fail
  refine cC.mono ?_
  rintro e w1 ⟨rfl, h1, hb1, hg1⟩
  obtain ⟨hB, v, hbk, hown, hne⟩ := h1
  have HG := hid_in hg1; have HB1 := hid_in hb1; have HO := hid_in hown; have HK := hid_in hbk
  have c0 : w1.cell? ⟨b, 0, none⟩ = some (.pointer (some ⟨b, 0, none⟩)) := by rw [Lib.cell_of_heap hbk]; rfl
  have c1 : w1.cell? ⟨b, 1, none⟩ = some v := by rw [Lib.cell_of_heap hbk]; rfl
  have hlt : b < w1.heap.size := (Array.getElem?_eq_some_iff.1 hbk).1
  clear h hg hg1 hb1 hown hbk cC
  have hl : (rC 16 f).toList.length = 16 * 1 := by rw [Array.length_toList, rC_size]
  have hnw : ∀ j u, (rC 16 f).toList[j]? = some u → w1.cell? ((⟨g, 0, none⟩ : Addr).add j) = some u := fun j u hj => by
    have hj16 : j < 16 := by have := (List.getElem?_eq_some_iff.1 hj).1; rw [Array.length_toList, rC_size] at this; exact this
    rw [RB.row HG.out j hj16, ← hj, Array.getElem?_toList]
  have h1c : ∀ u ∈ (rC 16 f).toList, u.oneCell' = true := fun u hu => by
    have := rC_one 16 f
    rw [Array.all_eq_true_iff_forall_mem] at this
    exact this u (by simpa using hu)
  have HNW := hid_in hnw; have H1C := hid_in h1c; have HLN := hid_in hl
  have hbs : B ≤ w1.heap.size := by have := HB1.out.size; omega
  clear hnw h1c hl
  go_wp2_with (at_builtin; refine wpG elemB rfl (.tmp 12) (.tmp 13) rfl B v bs.length bs rfl HO.out ⟨g, 0, none⟩ 16 16 (rC 16 f).toList rfl HLN.out HNW.out H1C.out (by omega) hbs ?_; intro v3 w3 o3 g3 n3; obtain ⟨ao, n', cap, rfl, d1, f1, hb2⟩ := bFacts HK.out hne o3 g3; have O3 := hid_in o3; have G3 := hid_in g3; have hb2' := hid_in hb2; clear o3 g3 n3 hb2)
  go_ret2
  refine ⟨rfl, .inr ?_, ?_⟩
  · exact Lib.BuilderAt.put (T := 177) (e := 5) hB hb2'.out (bs' := bs ++ (rC 16 f).toList) (by have := O3.out; simpa [rC_size] using this) (by decide)
  · exact (HB1.out.grown G3.out (by have := HB1.out.size; omega) (fun k hk => (HO.out.lt k hk).1)).setCell (p := ⟨b, 1, none⟩) hB _
end Go.Proofs.YtefmmopkikpnhaaGreatDoor

namespace Go.Proofs.YtefmmopkikpnhaaGreatDoor
open Go.RowKit Go.LatT Go.BlockM Go.PlainAid Go.OpnT Go.ApdG Go.BytM Go.AesM Go.RowQ Go.RegH
set_option linter.unusedVariables false
set_option linter.unusedSimpArgs false
theorem byteCells_tl (n : Nat) (f : Nat → Nat) (hf : By n f) : Lib.byteCells (tl n f) = (rC n f).toList := by
  apply List.ext_getElem
  · simp [Lib.byteCells, tl_len, rC_size]
  · intro i h1 h2
    have hi : i < n := by simpa [rC_size] using h2
    have := hf i hi
    simp [Lib.byteCells, tl, rC]
    omega
theorem tl_next (k : Nat) (K : Nat → Nat → Nat) : tl (16 * (k + 1)) (flatK K) = tl (16 * k) (flatK K) ++ tl 16 (K k) := by
  apply List.ext_getElem
  · simp [tl_len]; omega
  · intro i h1 h2
    rw [tl_len] at h1
    by_cases h : i < 16 * k
    · rw [List.getElem_append_left (by rw [tl_len]; exact h)]
      simp [tl]
    · rw [List.getElem_append_right (by rw [tl_len]; omega)]
      simp only [tl, List.getElem_map, List.getElem_range, List.length_map, List.length_range]
      have := flatK_at K k (i - 16 * k) (by omega)
      rw [show 16 * k + (i - 16 * k) = i by omega] at this
      rw [this]
theorem byteCells_append (a b : List UInt8) : Lib.byteCells (a ++ b) = Lib.byteCells a ++ Lib.byteCells b := by simp [Lib.byteCells]
theorem Bd.later {w w' : World} {B b : Nat} {bs : List Value} (h : Bd w B b bs) (hb : Below w.heap.size w w') : Bd w' B b bs := by
  have aux : ∀ p, Lib.BuilderAt 177 5 B b p bs w → Lib.BuilderAt 177 5 B b p bs w' := by
    rintro p ⟨hB, v, hbk, hown, hne⟩
    exact ⟨hB, v, by rw [hb.block b (Array.getElem?_eq_some_iff.1 hbk).1]; exact hbk, owns_below hown hb, hne⟩
  exact h.imp (aux _) (aux _)
/-- What lies where while a text is built of blocks. -/
structure TB (w W : World) (l : List UInt8) : Prop where
  bel : Below w.heap.size w W
  bd : Bd W w.heap.size w.heap.size (Lib.byteCells l)
theorem TB.new (w : World) : TB w (w.alloc (.cells #[.pointer none, .slice none 0 0] 177)) [] :=
  ⟨below_box _ _, .inl ⟨Nat.le_refl _, .slice none 0 0, heap_alloc_new w _, World.ownsRow_nil _ _ _ _, by simp [Value.ownBlock]⟩⟩
set_option maxHeartbeats 4000000 in
set_option maxRecDepth 100000 in
theorem gridsText_any (a : Option Addr) (gk n cap : Nat) (K : Nat → Nat → Nat) (w : World) (hn : n ≤ 1000) (ha : n = 0 ∨ a = some ⟨gk, 0, none⟩ ∧ KR w gk n K) (hK : ∀ i, i < n → By 16 (K i)) :
    Calls Tryz.prog 102 #[.slice a n cap] w fun e w' => e = .returned (.string (txt (16 * n) (flatK K))) ∧ Below w.heap.size w w' := by
  have T0 := hid_in (TB.new w)
  have HA := hid_in ha
  clear ha
  go_enter Tryz.func102, Tryz.ntmps102
  go_wp2_with fail
  generalize (w.alloc (.cells #[.pointer none, .slice none 0 0] 177)) = W0 at *
  go_loopw [8] (fun v wr => ∃ k : Nat, k ≤ n ∧ v = .int .i64 (k : Int) ∧ Hid (TB w wr (tl (16 * k) (flatK K)))) (fun v _ => n - (intOf v).toNat)
  case atStart => exact ⟨0, Nat.zero_le _, rfl, T0⟩
  case round =>
    obtain ⟨k, hk, rfl, HW⟩ := hrel
    by_cases hlt : k < n
    · have HL := hid_in hlt
      rcases HA.out with h0 | ⟨rfl, hKR⟩
      · omega
      have q1 : (k : Int) < n := by omega
      have KW : KR wr gk n K := ⟨Nat.lt_of_lt_of_le hKR.lt HW.out.bel.size, fun i hi j hj => (HW.out.bel.cell (p := ⟨gk, i * 16 + j, none⟩) hKR.lt).trans (hKR.cell i hi j hj)⟩
      have HKW := hid_in (KW.row k hlt)
      have Z1 : Hid (RB (wr.alloc (.cells #[.int .u8 0, .int .u8 0, .int .u8 0, .int .u8 0, .int .u8 0, .int .u8 0, .int .u8 0, .int .u8 0, .int .u8 0, .int .u8 0, .int .u8 0, .int .u8 0, .int .u8 0, .int .u8 0, .int .u8 0, .int .u8 0] 119)) wr.heap.size 16 119 (fun _ => 0)) := by
        rw [zeroG]; exact RB.new wr 16 _ _
      have B1 := hid_in (below_box wr (.cells #[.int .u8 0, .int .u8 0, .int .u8 0, .int .u8 0, .int .u8 0, .int .u8 0, .int .u8 0, .int .u8 0, .int .u8 0, .int .u8 0, .int .u8 0, .int .u8 0, .int .u8 0, .int .u8 0, .int .u8 0, .int .u8 0] 119))
      clear KW hKR
      go_wp2_with (first | (refine wpList_load_at aggG rfl (.tmp 10) rfl ⟨gk, k * 16, none⟩ rfl (rC 16 (K k)) (rC_size _ _) HKW.out ?_) | (refine wpList_store_row rfl 119 _ _ rfl wr.heap.size _ rfl rfl 119 _ Z1.out sizeG rfl (rC_one _ _) ?_))
      have B2 := hid_in (Below_setRow (cs := rC 16 (K k)) B1.out (Nat.le_refl _))
      have R2 : Hid (RB (World.setRow _ wr.heap.size (rC 16 (K k))) wr.heap.size 16 119 (K k)) := setRow_at Z1.out
      have S2 : wr.heap.size < (World.setRow (wr.alloc (.cells #[.int .u8 0, .int .u8 0, .int .u8 0, .int .u8 0, .int .u8 0, .int .u8 0, .int .u8 0, .int .u8 0, .int .u8 0, .int .u8 0, .int .u8 0, .int .u8 0, .int .u8 0, .int .u8 0, .int .u8 0, .int .u8 0] 119)) wr.heap.size (rC 16 (K k))).heap.size := by simp [World.setRow]
      clear Z1 B1 HKW
      generalize (World.setRow _ wr.heap.size (rC 16 (K k))) = W2 at *
      have D2 := hid_in (HW.out.bd.later B2.out)
      have Z2 := hid_in (HW.out.bel.trans (B2.out.mono HW.out.bel.size))
      refine (bWrite w.heap.size w.heap.size wr.heap.size _ (K k) _ D2.out R2.out (by simp [Lib.byteCells, tl_len]; omega) (Z2.out.size)).mono ?_
      rintro e w3 ⟨rfl, hd3, hb3⟩
      have T3 : Hid (TB w w3 (tl (16 * (k + 1)) (flatK K))) := by
        refine ⟨Z2.out.trans hb3, ?_⟩
        rw [tl_next, byteCells_append, byteCells_tl 16 (K k) (hK k HL.out)]
        exact hd3
      clear hd3 hb3
      go_wp2_with fail
      exact ⟨⟨k + 1, HL.out, by simp, T3⟩, by have := HL.out; simp [intOf]; omega⟩
    · have hk' : k = n := by omega
      have HK := hid_in hk'
      have q1 : ¬ (k : Int) < n := by omega
      go_wp2_with fail
      refine (Tryz.Builder_String_any w.heap.size w.heap.size (tl (16 * k) (flatK K)) _ HW.out.bd HW.out.bel.size).mono ?_
      rintro e w4 ⟨rfl, hb4⟩
      have HB4 := hid_in hb4
      clear hb4
      go_wp2_with fail
      go_ret
      exact ⟨by first | rfl | (rw [HK.out]; rfl), HW.out.bel.trans HB4.out⟩
end Go.Proofs.YtefmmopkikpnhaaGreatDoor

namespace Go.Proofs.YtefmmopkikpnhaaGreatDoor
open Go.RowKit Go.LatT Go.BlockM Go.PlainAid Go.OpnT Go.ApdG Go.BytM Go.AesM Go.RowQ Go.RegH
set_option linter.unusedVariables false
set_option linter.unusedSimpArgs false
end Go.Proofs.YtefmmopkikpnhaaGreatDoor

namespace Go.Proofs.YtefmmopkikpnhaaGreatDoor
open Go.RowKit Go.LatT Go.BlockM Go.PlainAid Go.OpnT Go.ApdG Go.BytM Go.AesM Go.RowQ Go.RegH
set_option linter.unusedVariables false
set_option linter.unusedSimpArgs false
theorem lt_of_cell {w : World} {b o : Nat} {v : Value} (h : w.cell? ⟨b, o, none⟩ = some v) : b < w.heap.size := by
  unfold World.cell? at h
  rcases Nat.lt_or_ge b w.heap.size with h' | h'
  · exact h'
  · simp [Array.getElem?_eq_none h'] at h
theorem RB.text {w : World} {g : Nat} {f : Nat → Nat} (h : RB w g 16 119 f) (hf : By 16 f) : (convert 25 9 (.slice (some ⟨g, 0, none⟩) 16 16)).run Tryz.prog w = .ok (.string (txt 16 f)) w := by
  have := run_convert_bytes_back (P := Tryz.prog) w 25 9 5 ⟨g, 0, none⟩ 16 (tl 16 f) Tryz.underlying25 Tryz.underlying5 Tryz.underlying9 fun j hj => by
    rw [tl_len] at hj
    rw [RB.row h j hj, rC_get 16 f j hj]
    have := hf j hj
    simp [tl, hj]
    omega
  rw [tl_len] at this
  exact this
set_option maxHeartbeats 2000000 in
set_option maxRecDepth 100000 in
theorem put1_ok (s t : ByteArray) (b c : Nat) (w : World) (hs : s.size = 16) (ht : t.size = 16) (hb : w.cell? ⟨b, 0, none⟩ = some (.string s)) (hc : w.cell? ⟨c, 0, none⟩ = some (.string t)) :
    Calls Tryz.prog 167 #[.pointer (some ⟨b, 0, none⟩), .pointer (some ⟨c, 0, none⟩)] w fun e w' => e = .returned (.string (txt 16 (enc (KS (bn s)) (bn t) 10))) ∧ Below w.heap.size w w' := by
  have lb : b < w.heap.size := lt_of_cell hb
  have lc : c < w.heap.size := lt_of_cell hc
  go_enter Tryz.func167, Tryz.ntmps167
  go_wp2_with fail
  refine Code.wp_mono (Q := fun e a' w' => match e with | .normal => ∃ gt gk cap g, a' = { tmps := #[.pointer (some ⟨b, 0, none⟩), .pointer (some ⟨c, 0, none⟩), .string ⟨#[]⟩, .pointer (some ⟨g, 0, none⟩), .string s, .agg #[.pointer (some ⟨gt, 0, none⟩), .slice (some ⟨gk, 0, none⟩) 11 cap], .string t, .agg (rC 16 (bn t)), .agg (rC 16 (enc (KS (bn s)) (bn t) 10)), undef, undef], defers := [] } ∧ RB w' g 16 119 (enc (KS (bn s)) (bn t) 10) ∧ Below w.heap.size w w' | _ => False) ?_ ?_
  · intro e a' w' h
    cases e <;> first | exact h.elim | skip
    obtain ⟨gt, gk, cap, g, rfl, hR, hB⟩ := h
    have hcv := RB.text hR (enc_by (fun i _ => KS_by (fun i _ => bn_lt s i) i) (fun i _ => bn_lt t i) 10 (by omega))
    have HB := hid_in hB
    clear hB
    have hRl := hR.lt
    go_wp2_with fail
    go_ret
    exact ⟨rfl, HB.out⟩
  · refine wp_region_held_tail (S := fun w' => Below w.heap.size w w') (by kernel_rfl) (by dsimp only [List.dropLast]) (by exact rfl) (by kernel_rfl) ?_
    simp only [List.cons_append, List.nil_append]
    have H0 : Below w.heap.size w w.drew := (Below.refl _ _).drew
    refine wpAnyH_take (i := 0) (oi := { dst := some 4, op := Op.load 9 (Operand.tmp 0), type := 9, pos := "l6_aes.go:190", after := #[], guard := none }) (v := .string s) rfl (by kernel_rfl) (by kernel_rfl) (by kernel_rfl) (fun _ _ _ h => h) (Or.inl ⟨by rfl, ?_⟩) H0 ?_
    · intro w' hw
      have hc1 := (hw.cell (p := ⟨b, 0, none⟩) lb).trans hb
      go_simp
    try simp only [Act.put, List.setIfInBounds_toArray, List.set_cons_zero, List.set_cons_succ]
    refine wpAnyH_take (i := 2) (oi := { dst := some 6, op := Op.load 9 (Operand.tmp 1), type := 9, pos := "l6_aes.go:190", after := #[], guard := none }) (v := .string t) rfl (by kernel_rfl) (by kernel_rfl) (by kernel_rfl) (fun _ _ _ h => h) (Or.inl ⟨by rfl, ?_⟩) H0 ?_
    · intro w' hw
      have hc1 := (hw.cell (p := ⟨c, 0, none⟩) lc).trans hc
      go_simp
    try simp only [Act.put, List.setIfInBounds_toArray, List.set_cons_zero, List.set_cons_succ]
    refine wpAnyH_ready (rs := [1, 5]) (by kernel_rfl) (by simp) ?_
    refine AllReadyH.cons (o := { dst := some 5, op := Op.call { callee := Callee.value (Operand.func 97), args := #[Operand.tmp 4], argTypes := #[9] }, type := 116, pos := "l6_aes.go:190", after := #[{ on := 0, ground := Ground.data }], guard := none }) rfl (fun K' hK' => ?_) ?_
    · go_simp
      refine (cipherOf_ok s _ hs).mono ?_
      rintro e w1 ⟨gt, gk, cap, rfl, Tw1, Kw1, HB2'⟩
      have HB2 := H0.trans (HB2'.mono H0.size)
      refine hK'.out _ _ HB2 (fun _ => ?_)
      clear hK' K'
      try simp only [Act.put, List.setIfInBounds_toArray, List.set_cons_zero, List.set_cons_succ]
      refine wpAnyH_ready (rs := [3, 5]) (by kernel_rfl) (by simp) ?_
      refine AllReadyH.cons (o := { dst := some 7, op := Op.call { callee := Callee.value (Operand.func 98), args := #[Operand.tmp 6], argTypes := #[9] }, type := 119, pos := "l6_aes.go:190", after := #[{ on := 2, ground := Ground.data }, { on := 1, ground := Ground.chain }], guard := none }) rfl (fun K' hK' => ?_) ?_
      · go_simp
        refine (gridOf_ok t _ ht).mono ?_
        rintro e w3 ⟨rfl, HB4'⟩
        have HB4 := HB2.trans (HB4'.mono HB2.size)
        have Tw3 := RBlater Tw1 HB4'
        have Kw3 := Kw1.later HB4'
        refine hK'.out _ _ HB4 (fun _ => ?_)
        clear hK' K'
        try simp only [Act.put, List.setIfInBounds_toArray, List.set_cons_zero, List.set_cons_succ]
        refine wpAnyH_ready (rs := [4, 5]) (by kernel_rfl) (by simp) ?_
        refine AllReadyH.cons (o := { dst := some 8, op := Op.call { callee := Callee.value (Operand.func 100), args := #[Operand.tmp 5, Operand.tmp 7], argTypes := #[116, 119] }, type := 119, pos := "l6_aes.go:190", after := #[{ on := 1, ground := Ground.data }, { on := 3, ground := Ground.data }, { on := 3, ground := Ground.chain }], guard := none }) rfl (fun K' hK' => ?_) ?_
        · go_simp
          refine (put_any gt gk cap (KS (bn s)) (bn t) _ Tw3 Kw3 (fun i _ => bn_lt t i) (fun i _ => KS_by (fun i _ => bn_lt s i) i)).mono ?_
          rintro e w5 ⟨rfl, HB6'⟩
          have HB6 := HB4.trans (HB6'.mono HB4.size)
          refine hK'.out _ _ HB6 (fun _ => ?_)
          clear hK' K'
          try simp only [Act.put, List.setIfInBounds_toArray, List.set_cons_zero, List.set_cons_succ]
          refine wpAnyH_ready (rs := [5]) (by kernel_rfl) (by simp) ?_
          refine AllReadyH.cons (o := { dst := some 3, op := Op.alloc 119, type := 0, pos := "l6_aes.go:190", after := #[], guard := none }) rfl (fun K' hK' => ?_) AllReadyH.nil
          go_simp
          have HB8 := HB6.alloc HB6.size (.cells #[.int .u8 0, .int .u8 0, .int .u8 0, .int .u8 0, .int .u8 0, .int .u8 0, .int .u8 0, .int .u8 0, .int .u8 0, .int .u8 0, .int .u8 0, .int .u8 0, .int .u8 0, .int .u8 0, .int .u8 0, .int .u8 0] 119)
          have Rw7 : RB (w5.alloc (.cells #[.int .u8 0, .int .u8 0, .int .u8 0, .int .u8 0, .int .u8 0, .int .u8 0, .int .u8 0, .int .u8 0, .int .u8 0, .int .u8 0, .int .u8 0, .int .u8 0, .int .u8 0, .int .u8 0, .int .u8 0, .int .u8 0] 119)) w5.heap.size 16 119 (fun _ => 0) := by
            rw [zeroG]; exact RB.new w5 16 _ _
          have Tw7 := RBlater Tw3 (below_box _ (.cells #[.int .u8 0, .int .u8 0, .int .u8 0, .int .u8 0, .int .u8 0, .int .u8 0, .int .u8 0, .int .u8 0, .int .u8 0, .int .u8 0, .int .u8 0, .int .u8 0, .int .u8 0, .int .u8 0, .int .u8 0, .int .u8 0] 119))
          have Kw7 := Kw3.later (below_box _ (.cells #[.int .u8 0, .int .u8 0, .int .u8 0, .int .u8 0, .int .u8 0, .int .u8 0, .int .u8 0, .int .u8 0, .int .u8 0, .int .u8 0, .int .u8 0, .int .u8 0, .int .u8 0, .int .u8 0, .int .u8 0, .int .u8 0] 119))
          refine hK'.out _ _ HB8 (fun _ => ?_)
          clear hK' K'
          try simp only [Act.put, List.setIfInBounds_toArray, List.set_cons_zero, List.set_cons_succ]
          refine wpAnyH_take (i := 6) (v := .bool true) rfl (by kernel_rfl) (by kernel_rfl) (by kernel_rfl) (fun _ _ _ h => h) (Or.inl ⟨by rfl, fun w _ => by unfold execOp; rfl⟩) HB8 ?_
          simp only [blanked, Act.put]
          refine wpAnyH_done (by kernel_rfl) ?_ _
          show wpList _ _ _ _ _ _
          refine wpList_store_row rfl 119 _ _ rfl _ _ rfl rfl 119 _ Rw7 sizeG rfl (rC_one _ _) ?_
          exact ⟨gt, gk, cap, _, rfl, setRow_at Rw7, Below_setRow HB8 (HB6.size)⟩
        refine AllReadyH.cons (o := { dst := some 3, op := Op.alloc 119, type := 0, pos := "l6_aes.go:190", after := #[], guard := none }) rfl (fun K' hK' => ?_) AllReadyH.nil
        go_simp
        have HB10 := HB4.alloc HB4.size (.cells #[.int .u8 0, .int .u8 0, .int .u8 0, .int .u8 0, .int .u8 0, .int .u8 0, .int .u8 0, .int .u8 0, .int .u8 0, .int .u8 0, .int .u8 0, .int .u8 0, .int .u8 0, .int .u8 0, .int .u8 0, .int .u8 0] 119)
        have Rw9 : RB (w3.alloc (.cells #[.int .u8 0, .int .u8 0, .int .u8 0, .int .u8 0, .int .u8 0, .int .u8 0, .int .u8 0, .int .u8 0, .int .u8 0, .int .u8 0, .int .u8 0, .int .u8 0, .int .u8 0, .int .u8 0, .int .u8 0, .int .u8 0] 119)) w3.heap.size 16 119 (fun _ => 0) := by
          rw [zeroG]; exact RB.new w3 16 _ _
        have Tw9 := RBlater Tw3 (below_box _ (.cells #[.int .u8 0, .int .u8 0, .int .u8 0, .int .u8 0, .int .u8 0, .int .u8 0, .int .u8 0, .int .u8 0, .int .u8 0, .int .u8 0, .int .u8 0, .int .u8 0, .int .u8 0, .int .u8 0, .int .u8 0, .int .u8 0] 119))
        have Kw9 := Kw3.later (below_box _ (.cells #[.int .u8 0, .int .u8 0, .int .u8 0, .int .u8 0, .int .u8 0, .int .u8 0, .int .u8 0, .int .u8 0, .int .u8 0, .int .u8 0, .int .u8 0, .int .u8 0, .int .u8 0, .int .u8 0, .int .u8 0, .int .u8 0] 119))
        refine hK'.out _ _ HB10 (fun _ => ?_)
        clear hK' K'
        try simp only [Act.put, List.setIfInBounds_toArray, List.set_cons_zero, List.set_cons_succ]
        refine wpAnyH_ready (rs := [4]) (by kernel_rfl) (by simp) ?_
        refine AllReadyH.cons (o := { dst := some 8, op := Op.call { callee := Callee.value (Operand.func 100), args := #[Operand.tmp 5, Operand.tmp 7], argTypes := #[116, 119] }, type := 119, pos := "l6_aes.go:190", after := #[{ on := 1, ground := Ground.data }, { on := 3, ground := Ground.data }, { on := 3, ground := Ground.chain }], guard := none }) rfl (fun K' hK' => ?_) AllReadyH.nil
        go_simp
        refine (put_any gt gk cap (KS (bn s)) (bn t) _ Tw9 Kw9 (fun i _ => bn_lt t i) (fun i _ => KS_by (fun i _ => bn_lt s i) i)).mono ?_
        rintro e w11 ⟨rfl, HB12'⟩
        have HB12 := HB10.trans (HB12'.mono HB10.size)
        have Rw11 := RBlater Rw9 HB12'
        refine hK'.out _ _ HB12 (fun _ => ?_)
        clear hK' K'
        try simp only [Act.put, List.setIfInBounds_toArray, List.set_cons_zero, List.set_cons_succ]
        refine wpAnyH_take (i := 6) (v := .bool true) rfl (by kernel_rfl) (by kernel_rfl) (by kernel_rfl) (fun _ _ _ h => h) (Or.inl ⟨by rfl, fun w _ => by unfold execOp; rfl⟩) HB12 ?_
        simp only [blanked, Act.put]
        refine wpAnyH_done (by kernel_rfl) ?_ _
        show wpList _ _ _ _ _ _
        refine wpList_store_row rfl 119 _ _ rfl _ _ rfl rfl 119 _ Rw11 sizeG rfl (rC_one _ _) ?_
        exact ⟨gt, gk, cap, _, rfl, setRow_at Rw11, Below_setRow HB12 (HB4.size)⟩
      refine AllReadyH.cons (o := { dst := some 3, op := Op.alloc 119, type := 0, pos := "l6_aes.go:190", after := #[], guard := none }) rfl (fun K' hK' => ?_) AllReadyH.nil
      go_simp
      have HB14 := HB2.alloc HB2.size (.cells #[.int .u8 0, .int .u8 0, .int .u8 0, .int .u8 0, .int .u8 0, .int .u8 0, .int .u8 0, .int .u8 0, .int .u8 0, .int .u8 0, .int .u8 0, .int .u8 0, .int .u8 0, .int .u8 0, .int .u8 0, .int .u8 0] 119)
      have Rw13 : RB (w1.alloc (.cells #[.int .u8 0, .int .u8 0, .int .u8 0, .int .u8 0, .int .u8 0, .int .u8 0, .int .u8 0, .int .u8 0, .int .u8 0, .int .u8 0, .int .u8 0, .int .u8 0, .int .u8 0, .int .u8 0, .int .u8 0, .int .u8 0] 119)) w1.heap.size 16 119 (fun _ => 0) := by
        rw [zeroG]; exact RB.new w1 16 _ _
      have Tw13 := RBlater Tw1 (below_box _ (.cells #[.int .u8 0, .int .u8 0, .int .u8 0, .int .u8 0, .int .u8 0, .int .u8 0, .int .u8 0, .int .u8 0, .int .u8 0, .int .u8 0, .int .u8 0, .int .u8 0, .int .u8 0, .int .u8 0, .int .u8 0, .int .u8 0] 119))
      have Kw13 := Kw1.later (below_box _ (.cells #[.int .u8 0, .int .u8 0, .int .u8 0, .int .u8 0, .int .u8 0, .int .u8 0, .int .u8 0, .int .u8 0, .int .u8 0, .int .u8 0, .int .u8 0, .int .u8 0, .int .u8 0, .int .u8 0, .int .u8 0, .int .u8 0] 119))
      refine hK'.out _ _ HB14 (fun _ => ?_)
      clear hK' K'
      try simp only [Act.put, List.setIfInBounds_toArray, List.set_cons_zero, List.set_cons_succ]
      refine wpAnyH_ready (rs := [3]) (by kernel_rfl) (by simp) ?_
      refine AllReadyH.cons (o := { dst := some 7, op := Op.call { callee := Callee.value (Operand.func 98), args := #[Operand.tmp 6], argTypes := #[9] }, type := 119, pos := "l6_aes.go:190", after := #[{ on := 2, ground := Ground.data }, { on := 1, ground := Ground.chain }], guard := none }) rfl (fun K' hK' => ?_) AllReadyH.nil
      go_simp
      refine (gridOf_ok t _ ht).mono ?_
      rintro e w15 ⟨rfl, HB16'⟩
      have HB16 := HB14.trans (HB16'.mono HB14.size)
      have Tw15 := RBlater Tw13 HB16'
      have Kw15 := Kw13.later HB16'
      have Rw15 := RBlater Rw13 HB16'
      refine hK'.out _ _ HB16 (fun _ => ?_)
      clear hK' K'
      try simp only [Act.put, List.setIfInBounds_toArray, List.set_cons_zero, List.set_cons_succ]
      refine wpAnyH_ready (rs := [4]) (by kernel_rfl) (by simp) ?_
      refine AllReadyH.cons (o := { dst := some 8, op := Op.call { callee := Callee.value (Operand.func 100), args := #[Operand.tmp 5, Operand.tmp 7], argTypes := #[116, 119] }, type := 119, pos := "l6_aes.go:190", after := #[{ on := 1, ground := Ground.data }, { on := 3, ground := Ground.data }, { on := 3, ground := Ground.chain }], guard := none }) rfl (fun K' hK' => ?_) AllReadyH.nil
      go_simp
      refine (put_any gt gk cap (KS (bn s)) (bn t) _ Tw15 Kw15 (fun i _ => bn_lt t i) (fun i _ => KS_by (fun i _ => bn_lt s i) i)).mono ?_
      rintro e w17 ⟨rfl, HB18'⟩
      have HB18 := HB16.trans (HB18'.mono HB16.size)
      have Rw17 := RBlater Rw15 HB18'
      refine hK'.out _ _ HB18 (fun _ => ?_)
      clear hK' K'
      try simp only [Act.put, List.setIfInBounds_toArray, List.set_cons_zero, List.set_cons_succ]
      refine wpAnyH_take (i := 6) (v := .bool true) rfl (by kernel_rfl) (by kernel_rfl) (by kernel_rfl) (fun _ _ _ h => h) (Or.inl ⟨by rfl, fun w _ => by unfold execOp; rfl⟩) HB18 ?_
      simp only [blanked, Act.put]
      refine wpAnyH_done (by kernel_rfl) ?_ _
      show wpList _ _ _ _ _ _
      refine wpList_store_row rfl 119 _ _ rfl _ _ rfl rfl 119 _ Rw17 sizeG rfl (rC_one _ _) ?_
      exact ⟨gt, gk, cap, _, rfl, setRow_at Rw17, Below_setRow HB18 (HB2.size)⟩
    refine AllReadyH.cons (o := { dst := some 3, op := Op.alloc 119, type := 0, pos := "l6_aes.go:190", after := #[], guard := none }) rfl (fun K' hK' => ?_) AllReadyH.nil
    go_simp
    have HB20 := H0.alloc H0.size (.cells #[.int .u8 0, .int .u8 0, .int .u8 0, .int .u8 0, .int .u8 0, .int .u8 0, .int .u8 0, .int .u8 0, .int .u8 0, .int .u8 0, .int .u8 0, .int .u8 0, .int .u8 0, .int .u8 0, .int .u8 0, .int .u8 0] 119)
    have Rw19 : RB (w.drew.alloc (.cells #[.int .u8 0, .int .u8 0, .int .u8 0, .int .u8 0, .int .u8 0, .int .u8 0, .int .u8 0, .int .u8 0, .int .u8 0, .int .u8 0, .int .u8 0, .int .u8 0, .int .u8 0, .int .u8 0, .int .u8 0, .int .u8 0] 119)) w.drew.heap.size 16 119 (fun _ => 0) := by
      rw [zeroG]; exact RB.new w.drew 16 _ _
    refine hK'.out _ _ HB20 (fun _ => ?_)
    clear hK' K'
    try simp only [Act.put, List.setIfInBounds_toArray, List.set_cons_zero, List.set_cons_succ]
    refine wpAnyH_ready (rs := [1]) (by kernel_rfl) (by simp) ?_
    refine AllReadyH.cons (o := { dst := some 5, op := Op.call { callee := Callee.value (Operand.func 97), args := #[Operand.tmp 4], argTypes := #[9] }, type := 116, pos := "l6_aes.go:190", after := #[{ on := 0, ground := Ground.data }], guard := none }) rfl (fun K' hK' => ?_) AllReadyH.nil
    go_simp
    refine (cipherOf_ok s _ hs).mono ?_
    rintro e w21 ⟨gt, gk, cap, rfl, Tw21, Kw21, HB22'⟩
    have HB22 := HB20.trans (HB22'.mono HB20.size)
    have Rw21 := RBlater Rw19 HB22'
    refine hK'.out _ _ HB22 (fun _ => ?_)
    clear hK' K'
    try simp only [Act.put, List.setIfInBounds_toArray, List.set_cons_zero, List.set_cons_succ]
    refine wpAnyH_ready (rs := [3]) (by kernel_rfl) (by simp) ?_
    refine AllReadyH.cons (o := { dst := some 7, op := Op.call { callee := Callee.value (Operand.func 98), args := #[Operand.tmp 6], argTypes := #[9] }, type := 119, pos := "l6_aes.go:190", after := #[{ on := 2, ground := Ground.data }, { on := 1, ground := Ground.chain }], guard := none }) rfl (fun K' hK' => ?_) AllReadyH.nil
    go_simp
    refine (gridOf_ok t _ ht).mono ?_
    rintro e w23 ⟨rfl, HB24'⟩
    have HB24 := HB22.trans (HB24'.mono HB22.size)
    have Tw23 := RBlater Tw21 HB24'
    have Kw23 := Kw21.later HB24'
    have Rw23 := RBlater Rw21 HB24'
    refine hK'.out _ _ HB24 (fun _ => ?_)
    clear hK' K'
    try simp only [Act.put, List.setIfInBounds_toArray, List.set_cons_zero, List.set_cons_succ]
    refine wpAnyH_ready (rs := [4]) (by kernel_rfl) (by simp) ?_
    refine AllReadyH.cons (o := { dst := some 8, op := Op.call { callee := Callee.value (Operand.func 100), args := #[Operand.tmp 5, Operand.tmp 7], argTypes := #[116, 119] }, type := 119, pos := "l6_aes.go:190", after := #[{ on := 1, ground := Ground.data }, { on := 3, ground := Ground.data }, { on := 3, ground := Ground.chain }], guard := none }) rfl (fun K' hK' => ?_) AllReadyH.nil
    go_simp
    refine (put_any gt gk cap (KS (bn s)) (bn t) _ Tw23 Kw23 (fun i _ => bn_lt t i) (fun i _ => KS_by (fun i _ => bn_lt s i) i)).mono ?_
    rintro e w25 ⟨rfl, HB26'⟩
    have HB26 := HB24.trans (HB26'.mono HB24.size)
    have Rw25 := RBlater Rw23 HB26'
    refine hK'.out _ _ HB26 (fun _ => ?_)
    clear hK' K'
    try simp only [Act.put, List.setIfInBounds_toArray, List.set_cons_zero, List.set_cons_succ]
    refine wpAnyH_take (i := 6) (v := .bool true) rfl (by kernel_rfl) (by kernel_rfl) (by kernel_rfl) (fun _ _ _ h => h) (Or.inl ⟨by rfl, fun w _ => by unfold execOp; rfl⟩) HB26 ?_
    simp only [blanked, Act.put]
    refine wpAnyH_done (by kernel_rfl) ?_ _
    show wpList _ _ _ _ _ _
    refine wpList_store_row rfl 119 _ _ rfl _ _ rfl rfl 119 _ Rw25 sizeG rfl (rC_one _ _) ?_
    exact ⟨gt, gk, cap, _, rfl, setRow_at Rw25, Below_setRow HB26 (H0.size)⟩
set_option maxHeartbeats 2000000 in
set_option maxRecDepth 100000 in
theorem put1_no1 (s t : ByteArray) (b c : Nat) (w : World) (hs : s.size ≠ 16) (hs1 : s.size ≤ 1048576) (hb : w.cell? ⟨b, 0, none⟩ = some (.string s)) (hc : w.cell? ⟨c, 0, none⟩ = some (.string t)) :
    Calls Tryz.prog 167 #[.pointer (some ⟨b, 0, none⟩), .pointer (some ⟨c, 0, none⟩)] w fun e w' => PanP w e w' := by
  have lb : b < w.heap.size := lt_of_cell hb
  have lc : c < w.heap.size := lt_of_cell hc
  go_enter Tryz.func167, Tryz.ntmps167
  go_wp2_with fail
  refine Code.wp_mono (Q := fun e a' w' => match e with | .panic c => (∃ u pv, c = [{ v := .iface u pv, recovered := false }]) ∧ Below w.heap.size w w' ∧ a'.defers = [] | _ => False) ?_ ?_
  · intro e a' w' h
    cases e <;> first | exact h.elim | skip
    obtain ⟨⟨u, pv, rfl⟩, hB, hD⟩ := h
    have HB := hid_in hB
    clear hB
    go_wp2_with fail
    unfold bodyPost
    exact ⟨hD, ⟨_, _, rfl⟩, HB.out⟩
  · refine wp_region_held_tail (S := fun w' => Below w.heap.size w w') (by kernel_rfl) (by dsimp only [List.dropLast]) (by exact rfl) (by kernel_rfl) ?_
    simp only [List.cons_append, List.nil_append]
    have H0 : Below w.heap.size w w.drew := (Below.refl _ _).drew
    refine wpAnyH_take (i := 0) (oi := { dst := some 4, op := Op.load 9 (Operand.tmp 0), type := 9, pos := "l6_aes.go:190", after := #[], guard := none }) (v := .string s) rfl (by kernel_rfl) (by kernel_rfl) (by kernel_rfl) (fun _ _ _ h => h) (Or.inl ⟨by rfl, ?_⟩) H0 ?_
    · intro w' hw
      have hc1 := (hw.cell (p := ⟨b, 0, none⟩) lb).trans hb
      go_simp
    try simp only [Act.put, List.setIfInBounds_toArray, List.set_cons_zero, List.set_cons_succ]
    refine wpAnyH_take (i := 2) (oi := { dst := some 6, op := Op.load 9 (Operand.tmp 1), type := 9, pos := "l6_aes.go:190", after := #[], guard := none }) (v := .string t) rfl (by kernel_rfl) (by kernel_rfl) (by kernel_rfl) (fun _ _ _ h => h) (Or.inl ⟨by rfl, ?_⟩) H0 ?_
    · intro w' hw
      have hc1 := (hw.cell (p := ⟨c, 0, none⟩) lc).trans hc
      go_simp
    try simp only [Act.put, List.setIfInBounds_toArray, List.set_cons_zero, List.set_cons_succ]
    refine wpAnyH_ready (rs := [1, 5]) (by kernel_rfl) (by simp) ?_
    refine AllReadyH.cons (o := { dst := some 5, op := Op.call { callee := Callee.value (Operand.func 97), args := #[Operand.tmp 4], argTypes := #[9] }, type := 116, pos := "l6_aes.go:190", after := #[{ on := 0, ground := Ground.data }], guard := none }) rfl (fun K' hK' => ?_) ?_
    · go_simp
      refine (cipherOf_no s _ hs hs1).mono ?_
      rintro e w27 ⟨⟨u, pv, rfl⟩, HB28⟩
      exact ⟨⟨u, pv, rfl⟩, H0.trans (HB28.mono H0.size), rfl⟩
    refine AllReadyH.cons (o := { dst := some 3, op := Op.alloc 119, type := 0, pos := "l6_aes.go:190", after := #[], guard := none }) rfl (fun K' hK' => ?_) AllReadyH.nil
    go_simp
    have HB30 := H0.alloc H0.size (.cells #[.int .u8 0, .int .u8 0, .int .u8 0, .int .u8 0, .int .u8 0, .int .u8 0, .int .u8 0, .int .u8 0, .int .u8 0, .int .u8 0, .int .u8 0, .int .u8 0, .int .u8 0, .int .u8 0, .int .u8 0, .int .u8 0] 119)
    have Rw29 : RB (w.drew.alloc (.cells #[.int .u8 0, .int .u8 0, .int .u8 0, .int .u8 0, .int .u8 0, .int .u8 0, .int .u8 0, .int .u8 0, .int .u8 0, .int .u8 0, .int .u8 0, .int .u8 0, .int .u8 0, .int .u8 0, .int .u8 0, .int .u8 0] 119)) w.drew.heap.size 16 119 (fun _ => 0) := by
      rw [zeroG]; exact RB.new w.drew 16 _ _
    refine hK'.out _ _ HB30 (fun _ => ?_)
    clear hK' K'
    try simp only [Act.put, List.setIfInBounds_toArray, List.set_cons_zero, List.set_cons_succ]
    refine wpAnyH_ready (rs := [1]) (by kernel_rfl) (by simp) ?_
    refine AllReadyH.cons (o := { dst := some 5, op := Op.call { callee := Callee.value (Operand.func 97), args := #[Operand.tmp 4], argTypes := #[9] }, type := 116, pos := "l6_aes.go:190", after := #[{ on := 0, ground := Ground.data }], guard := none }) rfl (fun K' hK' => ?_) AllReadyH.nil
    go_simp
    refine (cipherOf_no s _ hs hs1).mono ?_
    rintro e w31 ⟨⟨u, pv, rfl⟩, HB32⟩
    exact ⟨⟨u, pv, rfl⟩, HB30.trans (HB32.mono HB30.size), rfl⟩
set_option maxHeartbeats 2000000 in
set_option maxRecDepth 100000 in
theorem put1_no2 (s t : ByteArray) (b c : Nat) (w : World) (hs : s.size = 16) (ht : t.size ≠ 16) (ht1 : t.size ≤ 1048576) (hb : w.cell? ⟨b, 0, none⟩ = some (.string s)) (hc : w.cell? ⟨c, 0, none⟩ = some (.string t)) :
    Calls Tryz.prog 167 #[.pointer (some ⟨b, 0, none⟩), .pointer (some ⟨c, 0, none⟩)] w fun e w' => PanP w e w' := by
  have lb : b < w.heap.size := lt_of_cell hb
  have lc : c < w.heap.size := lt_of_cell hc
  go_enter Tryz.func167, Tryz.ntmps167
  go_wp2_with fail
  refine Code.wp_mono (Q := fun e a' w' => match e with | .panic c => (∃ u pv, c = [{ v := .iface u pv, recovered := false }]) ∧ Below w.heap.size w w' ∧ a'.defers = [] | _ => False) ?_ ?_
  · intro e a' w' h
    cases e <;> first | exact h.elim | skip
    obtain ⟨⟨u, pv, rfl⟩, hB, hD⟩ := h
    have HB := hid_in hB
    clear hB
    go_wp2_with fail
    unfold bodyPost
    exact ⟨hD, ⟨_, _, rfl⟩, HB.out⟩
  · refine wp_region_held_tail (S := fun w' => Below w.heap.size w w') (by kernel_rfl) (by dsimp only [List.dropLast]) (by exact rfl) (by kernel_rfl) ?_
    simp only [List.cons_append, List.nil_append]
    have H0 : Below w.heap.size w w.drew := (Below.refl _ _).drew
    refine wpAnyH_take (i := 0) (oi := { dst := some 4, op := Op.load 9 (Operand.tmp 0), type := 9, pos := "l6_aes.go:190", after := #[], guard := none }) (v := .string s) rfl (by kernel_rfl) (by kernel_rfl) (by kernel_rfl) (fun _ _ _ h => h) (Or.inl ⟨by rfl, ?_⟩) H0 ?_
    · intro w' hw
      have hc1 := (hw.cell (p := ⟨b, 0, none⟩) lb).trans hb
      go_simp
    try simp only [Act.put, List.setIfInBounds_toArray, List.set_cons_zero, List.set_cons_succ]
    refine wpAnyH_take (i := 2) (oi := { dst := some 6, op := Op.load 9 (Operand.tmp 1), type := 9, pos := "l6_aes.go:190", after := #[], guard := none }) (v := .string t) rfl (by kernel_rfl) (by kernel_rfl) (by kernel_rfl) (fun _ _ _ h => h) (Or.inl ⟨by rfl, ?_⟩) H0 ?_
    · intro w' hw
      have hc1 := (hw.cell (p := ⟨c, 0, none⟩) lc).trans hc
      go_simp
    try simp only [Act.put, List.setIfInBounds_toArray, List.set_cons_zero, List.set_cons_succ]
    refine wpAnyH_ready (rs := [1, 5]) (by kernel_rfl) (by simp) ?_
    refine AllReadyH.cons (o := { dst := some 5, op := Op.call { callee := Callee.value (Operand.func 97), args := #[Operand.tmp 4], argTypes := #[9] }, type := 116, pos := "l6_aes.go:190", after := #[{ on := 0, ground := Ground.data }], guard := none }) rfl (fun K' hK' => ?_) ?_
    · go_simp
      refine (cipherOf_ok s _ hs).mono ?_
      rintro e w33 ⟨gt, gk, cap, rfl, Tw33, Kw33, HB34'⟩
      have HB34 := H0.trans (HB34'.mono H0.size)
      refine hK'.out _ _ HB34 (fun _ => ?_)
      clear hK' K'
      try simp only [Act.put, List.setIfInBounds_toArray, List.set_cons_zero, List.set_cons_succ]
      refine wpAnyH_ready (rs := [3, 5]) (by kernel_rfl) (by simp) ?_
      refine AllReadyH.cons (o := { dst := some 7, op := Op.call { callee := Callee.value (Operand.func 98), args := #[Operand.tmp 6], argTypes := #[9] }, type := 119, pos := "l6_aes.go:190", after := #[{ on := 2, ground := Ground.data }, { on := 1, ground := Ground.chain }], guard := none }) rfl (fun K' hK' => ?_) ?_
      · go_simp
        refine (gridOf_no t _ ht ht1).mono ?_
        rintro e w35 ⟨⟨u, pv, rfl⟩, HB36⟩
        exact ⟨⟨u, pv, rfl⟩, HB34.trans (HB36.mono HB34.size), rfl⟩
      refine AllReadyH.cons (o := { dst := some 3, op := Op.alloc 119, type := 0, pos := "l6_aes.go:190", after := #[], guard := none }) rfl (fun K' hK' => ?_) AllReadyH.nil
      go_simp
      have HB38 := HB34.alloc HB34.size (.cells #[.int .u8 0, .int .u8 0, .int .u8 0, .int .u8 0, .int .u8 0, .int .u8 0, .int .u8 0, .int .u8 0, .int .u8 0, .int .u8 0, .int .u8 0, .int .u8 0, .int .u8 0, .int .u8 0, .int .u8 0, .int .u8 0] 119)
      have Rw37 : RB (w33.alloc (.cells #[.int .u8 0, .int .u8 0, .int .u8 0, .int .u8 0, .int .u8 0, .int .u8 0, .int .u8 0, .int .u8 0, .int .u8 0, .int .u8 0, .int .u8 0, .int .u8 0, .int .u8 0, .int .u8 0, .int .u8 0, .int .u8 0] 119)) w33.heap.size 16 119 (fun _ => 0) := by
        rw [zeroG]; exact RB.new w33 16 _ _
      have Tw37 := RBlater Tw33 (below_box _ (.cells #[.int .u8 0, .int .u8 0, .int .u8 0, .int .u8 0, .int .u8 0, .int .u8 0, .int .u8 0, .int .u8 0, .int .u8 0, .int .u8 0, .int .u8 0, .int .u8 0, .int .u8 0, .int .u8 0, .int .u8 0, .int .u8 0] 119))
      have Kw37 := Kw33.later (below_box _ (.cells #[.int .u8 0, .int .u8 0, .int .u8 0, .int .u8 0, .int .u8 0, .int .u8 0, .int .u8 0, .int .u8 0, .int .u8 0, .int .u8 0, .int .u8 0, .int .u8 0, .int .u8 0, .int .u8 0, .int .u8 0, .int .u8 0] 119))
      refine hK'.out _ _ HB38 (fun _ => ?_)
      clear hK' K'
      try simp only [Act.put, List.setIfInBounds_toArray, List.set_cons_zero, List.set_cons_succ]
      refine wpAnyH_ready (rs := [3]) (by kernel_rfl) (by simp) ?_
      refine AllReadyH.cons (o := { dst := some 7, op := Op.call { callee := Callee.value (Operand.func 98), args := #[Operand.tmp 6], argTypes := #[9] }, type := 119, pos := "l6_aes.go:190", after := #[{ on := 2, ground := Ground.data }, { on := 1, ground := Ground.chain }], guard := none }) rfl (fun K' hK' => ?_) AllReadyH.nil
      go_simp
      refine (gridOf_no t _ ht ht1).mono ?_
      rintro e w39 ⟨⟨u, pv, rfl⟩, HB40⟩
      exact ⟨⟨u, pv, rfl⟩, HB38.trans (HB40.mono HB38.size), rfl⟩
    refine AllReadyH.cons (o := { dst := some 3, op := Op.alloc 119, type := 0, pos := "l6_aes.go:190", after := #[], guard := none }) rfl (fun K' hK' => ?_) AllReadyH.nil
    go_simp
    have HB42 := H0.alloc H0.size (.cells #[.int .u8 0, .int .u8 0, .int .u8 0, .int .u8 0, .int .u8 0, .int .u8 0, .int .u8 0, .int .u8 0, .int .u8 0, .int .u8 0, .int .u8 0, .int .u8 0, .int .u8 0, .int .u8 0, .int .u8 0, .int .u8 0] 119)
    have Rw41 : RB (w.drew.alloc (.cells #[.int .u8 0, .int .u8 0, .int .u8 0, .int .u8 0, .int .u8 0, .int .u8 0, .int .u8 0, .int .u8 0, .int .u8 0, .int .u8 0, .int .u8 0, .int .u8 0, .int .u8 0, .int .u8 0, .int .u8 0, .int .u8 0] 119)) w.drew.heap.size 16 119 (fun _ => 0) := by
      rw [zeroG]; exact RB.new w.drew 16 _ _
    refine hK'.out _ _ HB42 (fun _ => ?_)
    clear hK' K'
    try simp only [Act.put, List.setIfInBounds_toArray, List.set_cons_zero, List.set_cons_succ]
    refine wpAnyH_ready (rs := [1]) (by kernel_rfl) (by simp) ?_
    refine AllReadyH.cons (o := { dst := some 5, op := Op.call { callee := Callee.value (Operand.func 97), args := #[Operand.tmp 4], argTypes := #[9] }, type := 116, pos := "l6_aes.go:190", after := #[{ on := 0, ground := Ground.data }], guard := none }) rfl (fun K' hK' => ?_) AllReadyH.nil
    go_simp
    refine (cipherOf_ok s _ hs).mono ?_
    rintro e w43 ⟨gt, gk, cap, rfl, Tw43, Kw43, HB44'⟩
    have HB44 := HB42.trans (HB44'.mono HB42.size)
    have Rw43 := RBlater Rw41 HB44'
    refine hK'.out _ _ HB44 (fun _ => ?_)
    clear hK' K'
    try simp only [Act.put, List.setIfInBounds_toArray, List.set_cons_zero, List.set_cons_succ]
    refine wpAnyH_ready (rs := [3]) (by kernel_rfl) (by simp) ?_
    refine AllReadyH.cons (o := { dst := some 7, op := Op.call { callee := Callee.value (Operand.func 98), args := #[Operand.tmp 6], argTypes := #[9] }, type := 119, pos := "l6_aes.go:190", after := #[{ on := 2, ground := Ground.data }, { on := 1, ground := Ground.chain }], guard := none }) rfl (fun K' hK' => ?_) AllReadyH.nil
    go_simp
    refine (gridOf_no t _ ht ht1).mono ?_
    rintro e w45 ⟨⟨u, pv, rfl⟩, HB46⟩
    exact ⟨⟨u, pv, rfl⟩, HB44.trans (HB46.mono HB44.size), rfl⟩
end Go.Proofs.YtefmmopkikpnhaaGreatDoor

namespace Go.Proofs.YtefmmopkikpnhaaGreatDoor
open Go.RowKit Go.LatT Go.BlockM Go.PlainAid Go.OpnT Go.ApdG Go.BytM Go.AesM Go.RowQ Go.RegH
set_option linter.unusedVariables false
set_option linter.unusedSimpArgs false
/-- A block turned, as a text. -/
def putT (s t : ByteArray) : ByteArray := if s.size = 16 ∧ t.size = 16 then txt 16 (enc (KS (bn s)) (bn t) 10) else ⟨#[]⟩
theorem run_put1 (cap : Array Value) (W : World) : (callFunc 167 cap).run Tryz.prog W = .ok (.enter 167 cap) W := by
  first | kernel_rfl | simp [callFunc, go_sem, Tryz.func167]
set_option maxHeartbeats 1000000 in
set_option maxRecDepth 100000 in
theorem putS (s t : ByteArray) (w : World) (hz : (s.size : Int) ≤ 9223372036854775807) (hz2 : (t.size : Int) ≤ 9223372036854775807) :
    Calls Tryz.prog 165 #[.string s, .string t] w fun e w' => e = .returned (.string (putT s t)) ∧ Below w.heap.size w w' := by
  by_cases h : s.size = 16
  · have h' : (s.size : Int) = 16 := by omega
    by_cases h2 : t.size = 16
    · have h2' : (t.size : Int) = 16 := by omega
      have E := hid_in (show putT s t = txt 16 (enc (KS (bn s)) (bn t) 10) by unfold putT; rw [if_pos ⟨h, h2⟩])
      go_enter Tryz.func165, Tryz.ntmps165
      go_wp2_with fail
      refine (l6Keys_any s _ h).mono ?_
      rintro e w1 ⟨v, rfl, O1, hb1⟩
      obtain ⟨g, c, rfl, hc, hg, R, _⟩ := O1.row (by omega)
      have HR := hid_in R; have HB := hid_in hb1
      clear O1 R hb1
      go_wp2_with fail
      refine (l6Put_any g c (KS (bn s)) t _ HR.out h2 (fun i _ => KS_by (fun i _ => bn_lt s i) i)).mono ?_
      rintro e w2 ⟨rfl, hb2⟩
      go_wp2_with fail
      go_ret
      exact ⟨by rw [E.out]; rfl, below_later HB.out hb2⟩
    · have h1 : ((t.size : Int) == 16) = false := by simp; omega
      have h3 : ((t.size : Int) != 16) = true := by simp; omega
      have h4 : ¬ (t.size : Int) = 16 := by omega
      have E := hid_in (show putT s t = ⟨#[]⟩ by unfold putT; rw [if_neg (fun x => h2 x.2)])
      go_enter Tryz.func165, Tryz.ntmps165
      go_wp2_with fail
      go_ret
      exact ⟨by rw [E.out]; rfl, Below.refl _ _⟩
  · have h1 : ((s.size : Int) == 16) = false := by simp; omega
    have h3 : ((s.size : Int) != 16) = true := by simp; omega
    have h4 : ¬ (s.size : Int) = 16 := by omega
    have E := hid_in (show putT s t = ⟨#[]⟩ by unfold putT; rw [if_neg (fun x => h x.1)])
    go_enter Tryz.func165, Tryz.ntmps165
    go_wp2_with fail
    go_ret
    exact ⟨by rw [E.out]; rfl, Below.refl _ _⟩
set_option maxHeartbeats 1000000 in
set_option maxRecDepth 100000 in
theorem putI (s t : ByteArray) (w : World) (hs : s.size ≤ 1048576) (ht : t.size ≤ 1048576) :
    Calls Tryz.prog 118 #[.string s, .string t] w fun e w' => e = .returned (.string (putT s t)) ∧ Below w.heap.size w w' := by
  have hmf : ∀ (fn : Fn) (first cap : Array Value) (w : World), (Instr.makeFunc fn first cap).run Tryz.prog w = .ok (.func fn first cap) w := fun _ _ _ _ => rfl
  have c0 : ((w.alloc (.cells #[.string s] 9)).alloc (.cells #[.string t] 9)).cell? ⟨w.heap.size, 0, none⟩ = some (.string s) := by go_simp
  have c1 : ((w.alloc (.cells #[.string s] 9)).alloc (.cells #[.string t] 9)).cell? ⟨w.heap.size + 1, 0, none⟩ = some (.string t) := by go_simp
  have l0 : ((w.alloc (.cells #[.string s] 9)).alloc (.cells #[.string t] 9)).heap.size = w.heap.size + 1 + 1 := by simp
  have Z0 : Hid (Below w.heap.size w ((w.alloc (.cells #[.string s] 9)).alloc (.cells #[.string t] 9))) := by show Below _ _ _; go_grown
  have C0 := hid_in (fun W (hb : Below ((w.alloc (.cells #[.string s] 9)).alloc (.cells #[.string t] 9)).heap.size ((w.alloc (.cells #[.string s] 9)).alloc (.cells #[.string t] 9)) W) => ((bcell hb).1 w.heap.size 0 (by rw [l0]; omega)).trans c0)
  have C1 := hid_in (fun W (hb : Below ((w.alloc (.cells #[.string s] 9)).alloc (.cells #[.string t] 9)).heap.size ((w.alloc (.cells #[.string s] 9)).alloc (.cells #[.string t] 9)) W) => ((bcell hb).1 (w.heap.size + 1) 0 (by rw [l0]; omega)).trans c1)
  clear c0 c1 l0
  by_cases h : s.size = 16
  · by_cases h2 : t.size = 16
    · have E := hid_in (show putT s t = txt 16 (enc (KS (bn s)) (bn t) 10) by unfold putT; rw [if_pos ⟨h, h2⟩])
      go_enter Tryz.func118, Tryz.ntmps118
      go_wp2_with fail
      refine (orEmpty_ok 167 #[.pointer (some ⟨w.heap.size, 0, none⟩), .pointer (some ⟨w.heap.size + 1, 0, none⟩)] _ _ (run_put1 _) (fun W hb => put1_ok s t _ _ W h h2 (C0.out W hb) (C1.out W hb))).mono ?_
      rintro e w1 ⟨rfl, hb1⟩
      go_wp2_with fail
      go_ret
      exact ⟨by rw [E.out]; rfl, below_later Z0.out hb1⟩
    · have E := hid_in (show putT s t = ⟨#[]⟩ by unfold putT; rw [if_neg (fun x => h2 x.2)])
      go_enter Tryz.func118, Tryz.ntmps118
      go_wp2_with fail
      refine (orEmpty_no 167 #[.pointer (some ⟨w.heap.size, 0, none⟩), .pointer (some ⟨w.heap.size + 1, 0, none⟩)] _ (run_put1 _) (fun W hb => put1_no2 s t _ _ W h h2 ht (C0.out W hb) (C1.out W hb))).mono ?_
      rintro e w1 ⟨rfl, hb1⟩
      go_wp2_with fail
      go_ret
      exact ⟨by rw [E.out]; rfl, below_later Z0.out hb1⟩
  · have E := hid_in (show putT s t = ⟨#[]⟩ by unfold putT; rw [if_neg (fun x => h x.1)])
    go_enter Tryz.func118, Tryz.ntmps118
    go_wp2_with fail
    refine (orEmpty_no 167 #[.pointer (some ⟨w.heap.size, 0, none⟩), .pointer (some ⟨w.heap.size + 1, 0, none⟩)] _ (run_put1 _) (fun W hb => put1_no1 s t _ _ W h hs (C0.out W hb) (C1.out W hb))).mono ?_
    rintro e w1 ⟨rfl, hb1⟩
    go_wp2_with fail
    go_ret
    exact ⟨by rw [E.out]; rfl, below_later Z0.out hb1⟩
end Go.Proofs.YtefmmopkikpnhaaGreatDoor

namespace Go.Proofs.YtefmmopkikpnhaaGreatDoor
open Go.RowKit Go.LatT Go.BlockM Go.PlainAid Go.OpnT Go.ApdG Go.BytM Go.AesM Go.RowQ Go.RegH
set_option linter.unusedVariables false
set_option linter.unusedSimpArgs false
end Go.Proofs.YtefmmopkikpnhaaGreatDoor

namespace Go.Proofs.YtefmmopkikpnhaaGreatDoor
open Go.RowKit Go.LatT Go.BlockM Go.PlainAid Go.OpnT Go.ApdG Go.BytM Go.AesM Go.RowQ Go.RegH
set_option linter.unusedVariables false
set_option linter.unusedSimpArgs false
end Go.Proofs.YtefmmopkikpnhaaGreatDoor

namespace Go.Proofs.YtefmmopkikpnhaaGreatDoor
open Go.RowKit Go.LatT Go.BlockM Go.PlainAid Go.OpnT Go.ApdG Go.BytM Go.AesM Go.RowQ Go.RegH
set_option linter.unusedVariables false
set_option linter.unusedSimpArgs false
theorem bn_extract (s : ByteArray) (x y j : Nat) (hy : y ≤ s.size) (hj : x + j < y) : bn (s.extract x y) j = bn s (x + j) := by
  have h1 : j < (s.extract x y).size := by rw [ByteArray.size_extract]; omega
  have h2 : x + j < s.size := by omega
  unfold bn bt
  rw [dif_pos h1, dif_pos h2]
  have : (s.extract x y)[j]'h1 = s[x + j]'h2 := by
    show (s.extract x y).data[j]'_ = s.data[x + j]'_
    simp [ByteArray.data_extract]
  rw [this]
theorem ext_size (s : ByteArray) (x y : Nat) (hy : y ≤ s.size) : (s.extract x y).size = y - x := by rw [ByteArray.size_extract]; omega
/-- A text as blocks. -/
def blk (s : ByteArray) (i j : Nat) : Nat := bn s (16 * i + j)
theorem blk_by (s : ByteArray) (i : Nat) : By 16 (blk s i) := fun j _ => bn_lt s _
set_option maxHeartbeats 2000000 in
set_option maxRecDepth 100000 in
theorem gridsOf_ok (s : ByteArray) (n : Nat) (w : World) (h : s.size = 16 * n) (hn : n ≤ 20) :
    Calls Tryz.prog 99 #[.string s] w fun e w' => ∃ v, e = .returned v ∧ GL w' w.heap.size v n (blk s) ∧ Below w.heap.size w w' := by
  have h320 : (s.size : Int) ≤ 320 := by omega
  have hs0 : (s.size : Int) ≤ 9223372036854775807 := by omega
  have H16 := hid_in h
  clear h
  go_enter Tryz.func99, Tryz.ntmps99
  go_wp2_with fail
  go_loopw [3, 4] (fun v u wr => ∃ k x : Nat, k ≤ n ∧ u = .int .i64 (x : Int) ∧ Hid (16 * k = x) ∧ Hid (Below w.heap.size w wr ∧ GL wr w.heap.size v k (blk s))) (fun _ u _ => s.size - (intOf u).toNat)
  case atStart => exact ⟨0, 0, Nat.zero_le _, rfl, rfl, by show _ ∧ _; exact ⟨Below.refl _ _, World.ownsRow_nil _ _ _ _⟩⟩
  case round =>
    obtain ⟨k, x, hk, rfl, HX, HW⟩ := hrel
    obtain ⟨hB, hO⟩ := HW.out
    have HB := hid_in hB; have HO := hid_in hO
    have hz := hB.size
    clear hB hO HW
    by_cases hlt : k < n
    · have HL := hid_in hlt
      have hx := HX.out
      have h := H16.out
      have q1 : (x : Int) < s.size := by omega
      have q2 : (x : Int) + 16 ≤ s.size := by omega
      have q3 : ¬ (s.size : Int) < (x : Int) + 16 := by omega
      have e1 : (s.extract x (x + 16)).size = 16 := by rw [ext_size _ _ _ (by omega)]; omega
      have E1 := hid_in e1
      have e2 : min (x + 16) s.size = x + 16 := by omega
      have e3 : min ((x : Int) + 16) (s.size : Int) = (x : Int) + 16 := by omega
      have EB := hid_in (show ∀ j, j < 16 → bn (s.extract x (x + 16)) j = blk s k j from fun j hj => by rw [bn_extract s x (x + 16) j (by omega) (by omega)]; unfold blk; rw [hx])
      clear hx e1 h
      go_wp2_with fail
      refine (gridOf_ok (s.extract x (x + 16)) _ E1.out).mono ?_
      rintro e w1 ⟨rfl, hb1⟩
      rw [rC_congr EB.out]
      have HB1 := hid_in (HB.out.trans (hb1.mono hz))
      have HO1 := hid_in (owns_below HO.out hb1)
      have hz1 := hb1.size
      have hz2 : w.heap.size ≤ (w1.alloc (.cells (rC 16 (blk s k)) 119)).heap.size := by simp; omega
      have hk40 : k + 1 ≤ 4000000 := by omega
      have HNW := hid_in (fun j u (hj : (rC 16 (blk s k)).toList[j]? = some u) => show (w1.alloc (.cells (rC 16 (blk s k)) 119)).cell? ((⟨w1.heap.size, 0, none⟩ : Addr).add j) = some u by have := cells_new w1 (rC 16 (blk s k)).toList 119 j u hj; simpa using this)
      have H1C := hid_in (fun u (hu : u ∈ (rC 16 (blk s k)).toList) => show u.oneCell' = true by have := rC_one 16 (blk s k); rw [Array.all_eq_true_iff_forall_mem] at this; exact this u (by simpa using hu))
      have HLN := hid_in (show (rC 16 (blk s k)).toList.length = 1 * 16 by rw [Array.length_toList, rC_size])
      clear hb1 hz hz1
      go_wp2_with (first | (refine wpList_buildG rfl (.tmp 24) (blk s k) rfl rfl ?_) | (at_builtin; refine wpG elemG rfl (.tmp 15) (.tmp 25) rfl w.heap.size _ k (gC k (blk s)) rfl (HO1.out.alloc _) ⟨w1.heap.size, 0, none⟩ 1 1 (rC 16 (blk s k)).toList rfl HLN.out HNW.out H1C.out hk40 hz2 ?_; intro v3 w3 o3 g3 n3; have O3 := hid_in o3; have G3 := hid_in g3; clear o3 g3 n3))
      refine ⟨⟨k + 1, x + 16, HL.out, by simp, ?_, ?_⟩, ?_⟩
      · show _ = _
        have := HX.out; omega
      · show _ ∧ _
        refine ⟨(HB1.out.alloc HB1.out.size _).grown G3.out hz2 (fun g hg => (owns_own HO1.out g hg).1), ?_⟩
        unfold GL
        rw [gC_succ]
        exact O3.out
      · have := HX.out; have := HL.out; have := H16.out; simp [intOf]; omega
    · have hx := HX.out
      have h := H16.out
      have q1 : ¬ (x : Int) < s.size := by omega
      have hk' : k = n := by omega
      have HK := hid_in hk'
      clear hx h hk'
      go_wp2_with fail
      go_ret
      rw [← HK.out]
      exact ⟨_, rfl, HO.out, HB.out⟩
set_option maxHeartbeats 2000000 in
set_option maxRecDepth 100000 in
theorem gridsOf_no (s : ByteArray) (w : World) (h : ¬ (s.size % 16 = 0 ∧ s.size ≤ 320)) (hs : s.size ≤ 1048576) :
    Calls Tryz.prog 99 #[.string s] w fun e w' => PanP w e w' := by
  by_cases h320 : s.size ≤ 320
  · have h16 : s.size % 16 ≠ 0 := fun e => h ⟨e, h320⟩
    have h320' : (s.size : Int) ≤ 320 := by omega
    have H16 := hid_in h16
    clear h h16
    go_enter Tryz.func99, Tryz.ntmps99
    go_wp2_with fail
    go_loopw [3, 4] (fun v u wr => ∃ k x : Nat, x ≤ s.size ∧ u = .int .i64 (x : Int) ∧ Hid (16 * k = x) ∧ Hid (Below w.heap.size w wr ∧ GL wr w.heap.size v k (blk s))) (fun _ u _ => s.size - (intOf u).toNat)
    case atStart => exact ⟨0, 0, Nat.zero_le _, rfl, rfl, by show _ ∧ _; exact ⟨Below.refl _ _, World.ownsRow_nil _ _ _ _⟩⟩
    case round =>
      obtain ⟨k, x, hk, rfl, HX, HW⟩ := hrel
      obtain ⟨hB, hO⟩ := HW.out
      have HB := hid_in hB; have HO := hid_in hO
      have hz := hB.size
      clear hB hO HW
      have hx := HX.out
      have h := H16.out
      have q1 : (x : Int) < s.size := by omega
      by_cases hfull : x + 16 ≤ s.size
      · have e1 : (s.extract x (x + 16)).size = 16 := by rw [ext_size _ _ _ (by omega)]; omega
        have E1 := hid_in e1
        have e2 : min (x + 16) s.size = x + 16 := by omega
        have e3 : min ((x : Int) + 16) (s.size : Int) = (x : Int) + 16 := by omega
        have q2 : (x : Int) + 16 ≤ s.size := by omega
        have EB := hid_in (show ∀ j, j < 16 → bn (s.extract x (x + 16)) j = blk s k j from fun j hj => by rw [bn_extract s x (x + 16) j (by omega) (by omega)]; unfold blk; rw [hx])
        have hk40 : k + 1 ≤ 4000000 := by omega
        have HF := hid_in hfull
        clear hx e1 h hfull
        go_wp2_with fail
        refine (gridOf_ok (s.extract x (x + 16)) _ E1.out).mono ?_
        rintro e w1 ⟨rfl, hb1⟩
        rw [rC_congr EB.out]
        have HB1 := hid_in (HB.out.trans (hb1.mono hz))
        have HO1 := hid_in (owns_below HO.out hb1)
        have hz1 := hb1.size
        have hz2 : w.heap.size ≤ (w1.alloc (.cells (rC 16 (blk s k)) 119)).heap.size := by simp; omega
        have HNW := hid_in (fun j u (hj : (rC 16 (blk s k)).toList[j]? = some u) => show (w1.alloc (.cells (rC 16 (blk s k)) 119)).cell? ((⟨w1.heap.size, 0, none⟩ : Addr).add j) = some u by have := cells_new w1 (rC 16 (blk s k)).toList 119 j u hj; simpa using this)
        have H1C := hid_in (fun u (hu : u ∈ (rC 16 (blk s k)).toList) => show u.oneCell' = true by have := rC_one 16 (blk s k); rw [Array.all_eq_true_iff_forall_mem] at this; exact this u (by simpa using hu))
        have HLN := hid_in (show (rC 16 (blk s k)).toList.length = 1 * 16 by rw [Array.length_toList, rC_size])
        clear hb1 hz hz1
        go_wp2_with (first | (refine wpList_buildG rfl (.tmp 24) (blk s k) rfl rfl ?_) | (at_builtin; refine wpG elemG rfl (.tmp 15) (.tmp 25) rfl w.heap.size _ k (gC k (blk s)) rfl (HO1.out.alloc _) ⟨w1.heap.size, 0, none⟩ 1 1 (rC 16 (blk s k)).toList rfl HLN.out HNW.out H1C.out hk40 hz2 ?_; intro v3 w3 o3 g3 n3; have O3 := hid_in o3; have G3 := hid_in g3; clear o3 g3 n3))
        refine ⟨⟨k + 1, x + 16, HF.out, by simp, ?_, ?_⟩, ?_⟩
        · show _ = _
          have := HX.out; omega
        · show _ ∧ _
          refine ⟨(HB1.out.alloc HB1.out.size _).grown G3.out hz2 (fun g hg => (owns_own HO1.out g hg).1), ?_⟩
          unfold GL
          rw [gC_succ]
          exact O3.out
        · have := HX.out; have := HF.out; simp [intOf]; omega
      · have e1 : (s.extract x s.size).size ≠ 16 := by rw [ext_size _ _ _ (Nat.le_refl _)]; omega
        have e1' : (s.extract x s.size).size ≤ 1048576 := by rw [ext_size _ _ _ (Nat.le_refl _)]; omega
        have E1 := hid_in e1; have E1' := hid_in e1'
        have e2 : min (x + 16) s.size = s.size := by omega
        have e3 : min ((x : Int) + 16) (s.size : Int) = (s.size : Int) := by omega
        clear hx e1 h e1' hfull
        go_wp2_with fail
        refine (gridOf_no (s.extract x s.size) _ E1.out E1'.out).mono ?_
        rintro e w1 ⟨⟨u, pv, rfl⟩, hb1⟩
        have HB1 := hid_in (HB.out.trans (hb1.mono hz))
        clear hb1
        go_wp2_with fail
        unfold bodyPost
        exact ⟨rfl, ⟨_, _, rfl⟩, HB1.out⟩
  · have h320' : (320 : Int) < s.size := by omega
    go_enter Tryz.func99, Tryz.ntmps99
    go_wp2_with fail
    unfold bodyPost
    first | exact ⟨rfl, ⟨_, _, rfl⟩, by go_grown⟩ | exact ⟨rfl, ⟨_, _, rfl⟩, Below.refl _ _⟩
end Go.Proofs.YtefmmopkikpnhaaGreatDoor

namespace Go.Proofs.YtefmmopkikpnhaaGreatDoor
open Go.RowKit Go.LatT Go.BlockM Go.PlainAid Go.OpnT Go.ApdG Go.BytM Go.AesM Go.RowQ Go.RegH
set_option linter.unusedVariables false
set_option linter.unusedSimpArgs false
/-- A list of cells, some of them laid anew. -/
def setMany : List Value → Nat → List Value → List Value
  | xs, _, [] => xs
  | xs, o, v :: vs => setMany (xs.set o v) (o + 1) vs
theorem setMany_get : ∀ (vs xs : List Value) (o i : Nat), o + vs.length ≤ xs.length → (setMany xs o vs)[i]? = if o ≤ i ∧ i < o + vs.length then vs[i - o]? else xs[i]?
  | [], xs, o, i, _ => by
    rw [setMany, if_neg (by simp only [List.length_nil]; omega)]
  | v :: vs, xs, o, i, h => by
    simp only [List.length_cons] at h
    rw [setMany, setMany_get vs _ _ i (by rw [List.length_set]; omega)]
    by_cases h1 : o + 1 ≤ i ∧ i < o + 1 + vs.length
    · rw [if_pos h1, if_pos (by simp only [List.length_cons]; omega), show i - o = i - (o + 1) + 1 by omega, List.getElem?_cons_succ]
    · rw [if_neg h1]
      by_cases h2 : i = o
      · subst h2
        rw [if_pos (by simp only [List.length_cons]; omega), Nat.sub_self, List.getElem?_cons_zero, List.getElem?_set, if_pos rfl, if_pos (by omega)]
      · rw [if_neg (by simp only [List.length_cons]; omega), List.getElem?_set, if_neg (fun e => h2 e.symm)]
theorem owns_setMany {base size n cap g : Nat} {e : TypeId} : ∀ (vs : List Value) (w : World) (xs : List Value) (o : Nat), w.ownsRow base e size (.slice (some ⟨g, 0, none⟩) n cap) n xs → (w.setCells g o vs).ownsRow base e size (.slice (some ⟨g, 0, none⟩) n cap) n (setMany xs o vs)
  | [], _, _, _, h => h
  | v :: vs, w, xs, o, h => owns_setMany vs _ _ _ (World.ownsRow.stored h o v).1
theorem setCells_other {g k : Nat} (hk : k ≠ g) : ∀ (vs : List Value) (w : World) (o : Nat), (w.setCells g o vs).heap[k]? = w.heap[k]?
  | [], _, _ => rfl
  | v :: vs, w, o => by rw [World.setCells, setCells_other hk vs, heap_setCell_other _ ⟨g, o, none⟩ k v hk]
theorem setCells_size (g : Nat) : ∀ (vs : List Value) (w : World) (o : Nat), (w.setCells g o vs).heap.size = w.heap.size
  | [], _, _ => rfl
  | v :: vs, w, o => by rw [World.setCells, setCells_size g vs]; simp
theorem Below_setCells {B g : Nat} (hg : B ≤ g) : ∀ (vs : List Value) (w W : World) (o : Nat), Below B w W → Below B w (W.setCells g o vs)
  | [], _, _, _, h => h
  | v :: vs, w, W, o, h => Below_setCells hg vs w _ _ (h.setCell (p := ⟨g, o, none⟩) hg v)
theorem gC_set (n : Nat) (T : Nat → Nat → Nat) (k : Nat) (x : Nat → Nat) (hk : k < n) : setMany (gC n T) (k * 16) (rC 16 x).toList = gC n (fun i => if i = k then x else T i) := by
  have hl : (rC 16 x).toList.length = 16 := by rw [Array.length_toList, rC_size]
  have hle : k * 16 + 16 ≤ n * 16 := by omega
  apply List.ext_getElem?
  intro p
  rw [setMany_get _ _ _ _ (by rw [hl, gC_len]; exact hle), hl]
  by_cases hp : p < n * 16
  · have hq : p / 16 < n := by omega
    have hr : p % 16 < 16 := Nat.mod_lt _ (by omega)
    have e : p = p / 16 * 16 + p % 16 := by omega
    have g1 := gC_get T n (p / 16) (p % 16) hq hr
    have g2 := gC_get (fun i => if i = k then x else T i) n (p / 16) (p % 16) hq hr
    rw [← e] at g1 g2
    rw [g2]
    by_cases h1 : k * 16 ≤ p ∧ p < k * 16 + 16
    · have hk2 : p / 16 = k := by omega
      rw [if_pos h1, if_pos hk2, Array.getElem?_toList, show p - k * 16 = p % 16 by omega, rC_get 16 x (p % 16) hr]
    · have hk2 : ¬ p / 16 = k := by omega
      rw [if_neg h1, if_neg hk2, g1]
  · rw [if_neg (by omega), List.getElem?_eq_none (by rw [gC_len]; omega), List.getElem?_eq_none (by rw [gC_len]; omega)]
/-- A cipher's box, empty. -/
def CZ (W : World) (gc : Nat) : Prop := W.heap[gc]? = some (.cells #[.pointer none, .slice none 0 0] 116 (0, 0))
theorem CZ.lt {W : World} {gc : Nat} (h : CZ W gc) : gc < W.heap.size := (Array.getElem?_eq_some_iff.1 h).1
theorem CZ.later {W W' : World} {gc : Nat} (h : CZ W gc) (hb : Below W.heap.size W W') : CZ W' gc := by
  unfold CZ; rw [hb.block gc h.lt]; exact h
theorem CZ.new (w : World) : CZ (w.alloc (.cells #[.pointer none, .slice none 0 0] 116)) w.heap.size := heap_alloc_new w _
/-- What lies where while blocks are chained. -/
structure HS (w W : World) (gc gt gk ga cap n B : Nat) (v : Value) (K T : Nat → Nat → Nat) (f : Nat → Nat) : Prop where
  bel : Below w.heap.size w W
  box : CB W gc gt (.slice (some ⟨gk, 0, none⟩) 11 cap)
  tab : RB W gt 512 171 (tabF 255)
  keys : KR W gk 11 K
  ahd : RB W ga 16 119 f
  lst : GL W B v n T
  hB : w.heap.size ≤ B
  kB : gk < B
  ne : ∀ g, v.ownBlock = some g → g ≠ ga
  cB : w.heap.size ≤ gc
  aB : w.heap.size ≤ ga
  ka : gk ≠ ga
section
variable {w W W' : World} {gc gt gk ga cap n B : Nat} {v : Value} {K T : Nat → Nat → Nat} {f h : Nat → Nat}
theorem ne_of_type {W : World} {a b : Nat} {ca cb : Array Value} {s t : TypeId} (ha : W.heap[a]? = some (.cells ca s (0, 0))) (hb : W.heap[b]? = some (.cells cb t (0, 0))) (hst : s ≠ t) : a ≠ b := by
  intro e
  subst e
  rw [ha] at hb
  have := congrArg (fun o => match o with | some (Obj.cells _ t _) => t | _ => 0) hb
  exact hst this
theorem KR.ne_row {W : World} {gk g : Nat} {K : Nat → Nat → Nat} {cs : Array Value} {t : TypeId} (hk : KR W gk 11 K) (hg : W.heap[g]? = some (.cells cs t (0, 0))) (hs : cs.size ≤ 16) : gk ≠ g := by
  intro e
  subst e
  have := hk.cell 1 (by omega) 0 (by omega)
  rw [cell_of_row W gk _ _ _ _ hg, Array.getElem?_eq_none (by omega)] at this
  cases this
theorem KR.of_block {W W' : World} {gk m : Nat} {K : Nat → Nat → Nat} (hk : KR W gk m K) (hb : W'.heap[gk]? = W.heap[gk]?) (hs : W.heap.size ≤ W'.heap.size) : KR W' gk m K :=
  ⟨Nat.lt_of_lt_of_le hk.lt hs, fun i hi j hj => by have := hk.cell i hi j hj; unfold World.cell? at this ⊢; rw [hb]; exact this⟩
theorem owns_of_blocks {W W' : World} {B size n : Nat} {e : TypeId} {v : Value} {xs : List Value} (ho : W.ownsRow B e size v n xs) (hb : ∀ g, v.ownBlock = some g → W'.heap[g]? = W.heap[g]?) : W'.ownsRow B e size v n xs := by
  obtain ⟨h1, h2⟩ := ho
  refine ⟨h1, ?_⟩
  rcases h2 with h2 | ⟨g, cp, cur, e1, e2, e3, e4⟩
  · exact .inl h2
  · exact .inr ⟨g, cp, cur, e1, e2, by rw [hb g (by rw [e1]; rfl)]; exact e3, e4⟩
theorem HS.later (s : HS w W gc gt gk ga cap n B v K T f) (hb : Below W.heap.size W W') : HS w W' gc gt gk ga cap n B v K T f :=
  ⟨below_later s.bel hb, s.box.later hb, RBlater s.tab hb, s.keys.later hb, RBlater s.ahd hb, owns_below s.lst hb, s.hB, s.kB, s.ne, s.cB, s.aB, s.ka⟩
theorem HS.drew (s : HS w W gc gt gk ga cap n B v K T f) : HS w W.drew gc gt gk ga cap n B v K T f :=
  ⟨s.bel.drew, s.box, s.tab, ⟨s.keys.lt, s.keys.cell⟩, s.ahd, s.lst, s.hB, s.kB, s.ne, s.cB, s.aB, s.ka⟩
theorem HS.setA (s : HS w W gc gt gk ga cap n B v K T f) (h : Nat → Nat) : HS w (W.setRow ga (rC 16 h)) gc gt gk ga cap n B v K T h := by
  have n1 : gc ≠ ga := ne_of_type s.box s.ahd (by decide)
  have n2 : gt ≠ ga := ne_of_type s.tab s.ahd (by decide)
  refine ⟨Below_setRow s.bel s.aB, ?_, ?_, ?_, setRow_at s.ahd, ?_, s.hB, s.kB, s.ne, s.cB, s.aB, s.ka⟩
  · unfold CB; rw [setRow_other n1]; exact s.box
  · unfold RB; rw [setRow_other n2]; exact s.tab
  · exact s.keys.of_block (setRow_other s.ka) (by simp [World.setRow])
  · exact owns_of_blocks s.lst fun g hg => setRow_other (s.ne g hg)
theorem HS.setL {g c : Nat} (s : HS w W gc gt gk ga cap n B (.slice (some ⟨g, 0, none⟩) n c) K T f) (hn : 0 < n) (k : Nat) (hk : k < n) (x : Nat → Nat) :
    HS w (W.setCells g (k * 16) (rC 16 x).toList) gc gt gk ga cap n B (.slice (some ⟨g, 0, none⟩) n c) K (fun i => if i = k then x else T i) f := by
  obtain ⟨g', c', cur, hu, hc, hg, R, hh, hz⟩ := s.lst.row hn
  have hu2 : g = g' ∧ c = c' := by simpa using hu
  obtain ⟨rfl, rfl⟩ := hu2
  have n1 : gc ≠ g := ne_of_type s.box hh (by decide)
  have n2 : gt ≠ g := ne_of_type s.tab hh (by decide)
  have n3 : gk ≠ g := by have := s.kB; omega
  have n4 : ga ≠ g := fun e => s.ne g rfl e.symm
  refine ⟨Below_setCells (by have := s.hB; omega) _ _ _ _ s.bel, ?_, ?_, ?_, ?_, ?_, s.hB, s.kB, s.ne, s.cB, s.aB, s.ka⟩
  · unfold CB; rw [setCells_other n1]; exact s.box
  · unfold RB; rw [setCells_other n2]; exact s.tab
  · exact s.keys.of_block (setCells_other n3 _ _ _) (by rw [setCells_size]; exact Nat.le_refl _)
  · unfold RB; rw [setCells_other n4]; exact s.ahd
  · have := owns_setMany (rC 16 x).toList W (gC n T) (k * 16) s.lst
    rw [gC_set n T k x hk] at this
    exact this
theorem HS.congr {T' : Nat → Nat → Nat} (s : HS w W gc gt gk ga cap n B v K T f) (eT : ∀ i, i < n → ∀ j, j < 16 → T i j = T' i j) (ef : ∀ j, j < 16 → f j = h j) : HS w W gc gt gk ga cap n B v K T' h :=
  ⟨s.bel, s.box, s.tab, s.keys, s.ahd.congr ef, s.lst.congr eT, s.hB, s.kB, s.ne, s.cB, s.aB, s.ka⟩
/-- Behind the two stores that lay the boxes. -/
theorem HS.start (hbel : Below w.heap.size w W) (hz : CZ W gc) (htab : RB W gt 512 171 (tabF 255)) (hkeys : KR W gk 11 K) (hahd : RB W ga 16 119 f) (hlst : GL W B v n T) (hB : w.heap.size ≤ B) (kB : gk < B)
    (ne : ∀ g, v.ownBlock = some g → g ≠ ga) (cB : w.heap.size ≤ gc) (aB : w.heap.size ≤ ga) :
    HS w (W.setRow gc #[.pointer (some ⟨gt, 0, none⟩), .slice (some ⟨gk, 0, none⟩) 11 cap]) gc gt gk ga cap n B v K T f ∧ RB (W.setRow gc #[.pointer (some ⟨gt, 0, none⟩), .slice (some ⟨gk, 0, none⟩) 11 cap]) ga 16 119 f := by
  have n1 : ga ≠ gc := ne_of_type hahd hz (by decide)
  have n2 : gt ≠ gc := ne_of_type htab hz (by decide)
  have n3 : gk ≠ gc := hkeys.ne_row hz (by simp)
  have n4 : gk ≠ ga := hkeys.ne_row hahd (by rw [rC_size]; exact Nat.le_refl _)
  have a1 : RB (W.setRow gc #[.pointer (some ⟨gt, 0, none⟩), .slice (some ⟨gk, 0, none⟩) 11 cap]) ga 16 119 f := by unfold RB; rw [setRow_other n1]; exact hahd
  refine ⟨⟨Below_setRow hbel cB, setRow_at hz, ?_, hkeys.of_block (setRow_other n3) (by simp [World.setRow]), a1, ?_, hB, kB, ne, cB, aB, n4⟩, a1⟩
  · unfold RB; rw [setRow_other n2]; exact htab
  · refine owns_of_blocks hlst fun g hg => setRow_other ?_
    intro e
    subst e
    rcases hlst.2 with ⟨e1, _⟩ | ⟨g2, cp, cur, e1, e2, e3, _⟩
    · rw [e1] at hg; cases hg
    · rw [e1] at hg
      have : g2 = g := by simpa [Value.ownBlock] using hg
      subst this
      exact absurd rfl (ne_of_type e3 hz (by decide))
end
end Go.Proofs.YtefmmopkikpnhaaGreatDoor

namespace Go.Proofs.YtefmmopkikpnhaaGreatDoor
open Go.RowKit Go.LatT Go.BlockM Go.PlainAid Go.OpnT Go.ApdG Go.BytM Go.AesM Go.RowQ Go.RegH
set_option linter.unusedVariables false
set_option linter.unusedSimpArgs false
/-- Blocks chained. -/
def cp (K : Nat → Nat → Nat) (f : Nat → Nat) (T : Nat → Nat → Nat) : Nat → Nat → Nat
  | 0 => f
  | k + 1 => enc K (fun j => T k j ^^^ cp K f T k j) 10
theorem cp_by {K : Nat → Nat → Nat} {f : Nat → Nat} {T : Nat → Nat → Nat} (hK : ∀ i, i < 11 → By 16 (K i)) (hf : By 16 f) (hT : ∀ k, By 16 (T k)) : ∀ k, By 16 (cp K f T k)
  | 0 => hf
  | k + 1 => enc_by hK (xor_by (hT k) (cp_by hK hf hT k)) 10 (by omega)
theorem GL.any {W : World} {B n : Nat} {v : Value} {K : Nat → Nat → Nat} (h : GL W B v n K) : ∃ a c, v = .slice a n c := by
  obtain ⟨h1, h2⟩ := h
  rcases h2 with ⟨rfl, h0⟩ | ⟨g, cap, cur, rfl, _⟩
  · subst h0; exact ⟨_, _, rfl⟩
  · exact ⟨_, _, rfl⟩
theorem GL.there {W : World} {B n g c : Nat} {K : Nat → Nat → Nat} (h : GL W B (.slice (some ⟨g, 0, none⟩) n c) n K) (k : Nat) (hk : k < n) : W.there g (k * 16) 16 := by
  obtain ⟨g', c', cur, hu, _, _, R, _, hz⟩ := h.row (by omega)
  have hu2 : g = g' ∧ c = c' := by simpa using hu
  obtain ⟨rfl, rfl⟩ := hu2
  exact fun j hj => ⟨by rw [R.cell k hk j hj]; rfl, hz _⟩
end Go.Proofs.YtefmmopkikpnhaaGreatDoor

