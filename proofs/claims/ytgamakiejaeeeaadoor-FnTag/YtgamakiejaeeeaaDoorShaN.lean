/- Bytes pushed to a row that was made of a text, and a text filled, in the specification, as contracts. The conditions stand at each theorem. -/
import Derived.Test.YtgamakiejaeeeaaDoorShaL
import Derived.Laws.IdiomCopy
namespace Go.Proofs.YtgamakiejaeeeaaDoor
open Go.RowKit Go.LatT Go.BlockM Go.PlainAid Go.OpnT Go.ApdG Go.BytM Go.AesM Go.RowQ
set_option linter.unusedVariables false
set_option linter.unusedSimpArgs false
/-- Bytes that lie in a row of the call's own, whatever marks it bears. -/
structure PB (w W : World) (v : Value) (n : Nat) (f : Nat → Nat) : Prop where
  bel : Below w.heap.size w W
  row : ∃ g cap, v = .slice (some ⟨g, 0, none⟩) n cap ∧ n ≤ cap ∧ w.heap.size ≤ g ∧ g < W.heap.size ∧ (∀ i, i < n → W.cell? ⟨g, i, none⟩ = some (.int .u8 (f i : Int))) ∧ (∀ i, i < cap → (W.cell? ⟨g, i, none⟩).isSome = true) ∧ ∀ i, i < cap → W.frozen? ⟨g, i, none⟩ = false
theorem PB.later {w W W' : World} {v : Value} {n : Nat} {f : Nat → Nat} (h : PB w W v n f) (hb : Below W.heap.size W W') : PB w W' v n f := by
  obtain ⟨g, cap, e, h1, h2, h3, h4, h5, h6⟩ := h.row
  refine ⟨below_later h.bel hb, g, cap, e, h1, h2, Nat.lt_of_lt_of_le h3 hb.size, fun i hi => (hb.cell (p := ⟨g, i, none⟩) h3).trans (h4 i hi), fun i hi => ?_, fun i hi => (hb.frozen (p := ⟨g, i, none⟩) h3).trans (h6 i hi)⟩
  rw [hb.cell (p := ⟨g, i, none⟩) h3]; exact h5 i hi
theorem PB.congr {w W : World} {v : Value} {n : Nat} {f f' : Nat → Nat} (h : PB w W v n f) (e : ∀ i, i < n → f i = f' i) : PB w W v n f' := by
  obtain ⟨g, cap, e0, h1, h2, h3, h4, h5, h6⟩ := h.row
  exact ⟨h.bel, g, cap, e0, h1, h2, h3, fun i hi => by rw [h4 i hi, e i hi], h5, h6⟩
theorem fz_alloc (w : World) (o : Obj) (g i : Nat) (h : g < w.heap.size) : (w.alloc o).frozen? ⟨g, i, none⟩ = w.frozen? ⟨g, i, none⟩ := (below_box w o).frozen (p := ⟨g, i, none⟩) h
theorem run_push (w W : World) (v : Value) (n b : Nat) (f : Nat → Nat) (hP : PB w W v n f) (ty : TypeId) (ad : Addr) (c : Nat) (hb : W.cell? ad = some (.int .u8 (b : Int))) (hbn : b = f n) (hn : n ≤ 4000000) :
    ∃ v' W', (Builtin.append_ #[26, 26] ty #[v, .slice (some ad) 1 c]).run Tryd.prog W = .ok v' W' ∧ PB w W' v' (n + 1) f := by
  obtain ⟨i, by_, hi, hz, hsz, hbb, hb'⟩ := elemB.info
  obtain ⟨g, cap, rfl, h1, h2, h3, h4, h5, h6⟩ := hP.row
  have hnews : ∀ j u, ([.int .u8 (b : Int)] : List Value)[j]? = some u → W.cell? (ad.add j) = some u := by
    intro j u hu
    match j, hu with
    | 0, hu => simp at hu; subst hu; simpa [Addr.add] using hb
    | j + 1, hu => simp at hu
  by_cases hroom : n + 1 ≤ cap
  · have hf := run_firstCells_some (P := Tryd.prog) W i.size 1 ad 1 c [.int .u8 (b : Int)] (by rw [hsz]; simp) hnews
    have hst := run_storeCells_cells (P := Tryd.prog) g n [.int .u8 (b : Int)] 0 W (fun j hj => by simp at hj; subst hj; exact h5 _ (by omega)) (fun j hj => by simp at hj; subst hj; exact h6 _ (by omega)) (by intro u hu; simp at hu; subst hu; rfl)
    simp only [Nat.add_zero] at hst
    refine ⟨.slice (some ⟨g, 0, none⟩) (n + 1) cap, W.setCells g n [.int .u8 (b : Int)], ?_, ?_⟩
    · rw [hsz] at hf
      simp [Builtin.append_, run_underlying elemB.under, sizeOf, typeInfo, hi, hsz, Builtin.lenOf, hroom, hf, Addr.add_lit, hst]
    · have e : W.setCells g n [.int .u8 (b : Int)] = W.setCell ⟨g, n, none⟩ (.int .u8 (b : Int)) := rfl
      rw [e]
      have hset : ∀ o, o ≠ n → (W.setCell ⟨g, n, none⟩ (.int .u8 (b : Int))).cell? ⟨g, o, none⟩ = W.cell? ⟨g, o, none⟩ := fun o ho =>
        World.cell?_setCell_other _ _ _ _ (fun e => ho (congrArg Addr.off e).symm)
      have hsm : (W.setCell ⟨g, n, none⟩ (.int .u8 (b : Int))).cell? ⟨g, n, none⟩ = some (.int .u8 (b : Int)) := World.cell?_setCell_same' _ _ _ (h5 n (by omega))
      refine ⟨hP.bel.setCell h2 _, g, cap, rfl, hroom, h2, by simpa using h3, fun i hi => ?_, fun i hi => ?_, fun i hi => by rw [World.frozen?_setCell]; exact h6 i hi⟩
      · by_cases e : i = n
        · subst e; rw [hsm, hbn]
        · rw [hset i e]; exact h4 i (by omega)
      · by_cases e : i = n
        · subst e; rw [hsm]; rfl
        · rw [hset i e]; exact h5 i hi
  · have hlo : ((List.range n).map fun i => Value.int .u8 (f i : Int)).length = n * i.size := by rw [hsz]; simp
    have hr := run_append_grow (P := Tryd.prog) W 26 ty 5 i _ elemB.under hi hz ⟨g, 0, none⟩ n cap ((List.range n).map fun i => Value.int .u8 (f i : Int)) hlo (fun j u hu => by
      rw [add_at, Nat.zero_add]
      have hj : j < n := by have := (List.getElem?_eq_some_iff.1 hu).1; simpa using this
      rw [h4 j hj]
      rw [List.getElem?_map, List.getElem?_range hj] at hu
      exact hu) ad 1 c [.int .u8 (b : Int)] (by rw [hsz]; rfl) hnews (by omega) (by omega) (growslice_fits (by omega) (by rw [hbb]; exact Nat.le_trans (Nat.mul_le_mul (show n + 1 ≤ 4000001 by omega) hb') (by omega)))
    refine ⟨_, _, hr, ?_⟩
    have hge := grownCap_ge W (n + 1) cap 5
    generalize grownCap W (n + 1) cap 5 = C at *
    have hbel : Below w.heap.size w (W.drew.alloc (.cells (((List.range n).map fun i => Value.int .u8 (f i : Int)).toArray ++ [Value.int .u8 (b : Int)].toArray ++ Builtin.zeroCells (Value.int .u8 0).cells (C - (n + 1))) 5)) := hP.bel.drew.alloc hP.bel.size _
    have hrow : (W.drew.alloc (.cells (((List.range n).map fun i => Value.int .u8 (f i : Int)).toArray ++ [Value.int .u8 (b : Int)].toArray ++ Builtin.zeroCells (Value.int .u8 0).cells (C - (n + 1))) 5)).heap[W.heap.size]? = some (.cells _ 5 (0, 0)) := heap_alloc_new W.drew _
    refine ⟨hbel, W.heap.size, C, rfl, hge, hP.bel.size, by simp, fun i hi => ?_, fun i hi => ?_, fun i hi => frozen_of_row _ _ _ _ _ hrow⟩
    · rw [cell_of_row _ _ _ _ _ _ hrow]
      rw [Array.getElem?_append_left (by simp; omega)]
      by_cases e : i = n
      · subst e
        rw [Array.getElem?_append_right (by simp)]
        simp [hbn]
      · rw [Array.getElem?_append_left (by simp; omega)]
        simp [show i < n by omega]
    · rw [cell_of_row _ _ _ _ _ _ hrow]
      simp [size_zeroCells, Value.cells]
      omega
theorem wpPush {ops : Array Oper} {rest : List Oper} {o : Oper} {a : Act} {Q : Exit → Act → World → Prop} {w W : World} (hgd : o.guard = none) (s x : Operand)
    (ho : o.op = .call { callee := .builtin .append, args := #[s, x], argTypes := #[26, 26] })
    (v : Value) (n b : Nat) (f : Nat → Nat) (hs : a.eval s = v) (hP : PB w W v n f) (ad : Addr) (c : Nat) (hx : a.eval x = .slice (some ad) 1 c) (hb : W.cell? ad = some (.int .u8 (b : Int))) (hbn : b = f n) (hn : n ≤ 4000000)
    (h : ∀ v' W', PB w W' v' (n + 1) f → wpList Tryd.prog ops Q rest (a.put o.dst v') W') : wpList Tryd.prog ops Q (o :: rest) a W := by
  obtain ⟨v', W', hr, h2⟩ := run_push w W v n b f hP o.type ad c hb hbn hn
  refine wpList_plain hgd fun _ hK => ?_
  unfold Oper.wp execOp
  simp only [ho, resolve, invoke, builtin, Sem.run_bind, Sem.run_pure, Result.andThen_ok, List.map_toArray, List.map_cons, List.map_nil, hs, hx, hr]
  exact hK _ _ (h v' W' h2)
theorem one8 (W : World) (b : Nat) (t : TypeId) : (W.alloc (.cells #[.int .u8 (b : Int)] t)).cell? ⟨W.heap.size, 0, none⟩ = some (.int .u8 (b : Int)) := by
  rw [cell_of_row _ _ _ _ _ _ (heap_alloc_new W _)]
  rfl
theorem PB.of_text (u : ByteArray) (w : World) (f : Nat → Nat) (hf : ∀ i, i < u.size → bn u i = f i) : ∃ W c, (convert 9 26 (.string u)).run Tryd.prog w = .ok (.slice (some ⟨w.heap.size, 0, none⟩) u.size c) W ∧ PB w W (.slice (some ⟨w.heap.size, 0, none⟩) u.size c) u.size f := by
  refine ⟨_, _, run_bytes_of_string w 9 26 5 u Tryd.underlying9 Tryd.underlying26 Tryd.underlying5, ?_, w.heap.size, _, rfl, ?_, Nat.le_refl _, by simp, fun j hj => ?_, fun j hj => ?_, fun j hj => ?_⟩
  · show Below _ _ _; go_grown
  · exact grownCap_ge _ _ _ _
  · have h1 := World.cell?_alloc_mark w.drew (bytesRow u (grownCap w u.size 0 5)) 5 ((bytesRow u (grownCap w u.size 0 5)).size, (bytesRow u (grownCap w u.size 0 5)).size + 1) j
    have h2 := bytesRow_at u (grownCap w u.size 0 5) j hj
    rw [h2] at h1
    have e : bt u j = (u.data[j].toNat : Int) := by unfold bt; rw [dif_pos hj]; rfl
    rw [← hf j hj, bn_int, e]
    exact h1
  · have h1 := World.cell?_alloc_mark w.drew (bytesRow u (grownCap w u.size 0 5)) 5 ((bytesRow u (grownCap w u.size 0 5)).size, (bytesRow u (grownCap w u.size 0 5)).size + 1) j
    have h2 : j < (bytesRow u (grownCap w u.size 0 5)).size := by simp [bytesRow]; omega
    have h3 : (bytesRow u (grownCap w u.size 0 5))[j]? = some (bytesRow u (grownCap w u.size 0 5))[j] := Array.getElem?_eq_getElem h2
    rw [h3] at h1
    exact Option.isSome_iff_exists.2 ⟨_, h1⟩
  · have h1 := World.frozen?_alloc_mark w.drew (bytesRow u (grownCap w u.size 0 5)) 5 (bytesRow u (grownCap w u.size 0 5)).size ((bytesRow u (grownCap w u.size 0 5)).size + 1) j
    have h2 : j < (bytesRow u (grownCap w u.size 0 5)).size := by simp [bytesRow]; omega
    rw [show (decide ((bytesRow u (grownCap w u.size 0 5)).size ≤ j)) = false by simp; omega, Bool.false_and] at h1
    exact h1
def slen : Value → Nat
  | .slice _ n _ => n
  | _ => 0
theorem PB.slen {w W : World} {v : Value} {n : Nat} {f : Nat → Nat} (h : PB w W v n f) : slen v = n := by
  obtain ⟨g, cap, rfl, _⟩ := h.row
  rfl
set_option maxHeartbeats 2000000 in
set_option maxRecDepth 100000 in
theorem l7Padded_any (s : ByteArray) (w : World) (hs : s.size ≤ 3000000) :
    Calls Tryd.prog 25 #[.string s] w fun e w' => ∃ v, e = .returned v ∧ PB w w' v (padN s.size) (pad (bn s) s.size) := by
  obtain ⟨N, hN⟩ : ∃ N, padN s.size = N := ⟨_, rfl⟩
  have HN := hid_in hN
  have hP := hid_in (show N = 64 * ((s.size + 8) / 64 + 1) by rw [← hN]; rfl)
  obtain ⟨W1, c, hcv, hS1⟩ := PB.of_text s w (pad (bn s) s.size) (fun i hi => (pad_low hi).symm)
  have S1 := hid_in hS1
  have HE := hid_in (show (128 : Nat) = pad (bn s) s.size s.size from pad_at.symm)
  rw [hN]
  clear hN hS1
  go_enter Tryd.func25, Tryd.ntmps25
  go_wp2_with (first | (at_builtin; refine wpPush rfl (.tmp 7) (.tmp 8) rfl (w := w) _ s.size 128 (pad (bn s) s.size) rfl (S1.out.later (below_box _ _)) _ _ rfl (one8 _ 128 _) HE.out (by omega) ?_; intro v2 W2 h2; have S2 := hid_in h2; clear h2))
  go_loopw [3] (fun v wr => ∃ p : Nat, s.size + 1 ≤ p ∧ p ≤ N - 8 ∧ Hid (PB w wr v p (pad (bn s) s.size))) (fun v _ => N - slen v)
  case atStart => exact ⟨s.size + 1, Nat.le_refl _, by have := hP.out; omega, S2⟩
  case round =>
    clear S2 S1
    obtain ⟨p, hp1, hp2, HS⟩ := hrel
    obtain ⟨g, cap, rfl, hgc, _⟩ := HS.out.row
    have HA := hid_in hp1
    by_cases h56 : p % 64 = 56
    · have q1 : (p : Int) % 64 = 56 := by omega
      have hE := hid_in (show p = N - 8 by have := hP.out; omega)
      obtain ⟨M8, hM8'⟩ : ∃ M, 8 * s.size = M := ⟨_, rfl⟩
      have eM : (s.size : Int) * 8 = (M8 : Int) := by omega
      have hMl : M8 ≤ 24000000 := by omega
      have hM8 := hid_in hM8'
      clear hM8'
      go_wp2_with fail
      go_loopw [3, 5] (fun v u wr => ∃ k : Nat, k ≤ 8 ∧ u = .int .i64 (7 - (k : Int)) ∧ Hid (PB w wr v (N - 8 + k) (pad (bn s) s.size))) (fun _ u _ => (intOf u + 1).toNat)
      case atStart => exact ⟨0, Nat.zero_le _, by simp, by show PB _ _ _ _ _; have h1 := HS.out; rw [show N - 8 + 0 = p by have := hE.out; omega]; exact h1⟩
      case round =>
        clear HS HA q1 hE
        obtain ⟨k, hk, rfl, HS⟩ := hrel
        by_cases hlt : k < 8
        · have HL := hid_in hlt
          obtain ⟨x, hx⟩ : ∃ x, 7 - k = x := ⟨_, rfl⟩
          have ex : (7 : Int) - (k : Int) = (x : Int) := by omega
          have hx7 : x ≤ 7 := by omega
          have hXX := hid_in hx
          clear hx
          have hp : ((M8 : Int) / 2 ^ (8 * x) % 256) = ((M8 / 256 ^ x % 256 : Nat) : Int) := by rw [pow256]; simp
          have HB := hid_in (show M8 / 256 ^ x % 256 = pad (bn s) s.size (N - 8 + k) by
            have h1 := hP.out
            rw [pad_end (by rw [HN.out]; omega), HN.out, hM8.out, show N - 1 - (N - 8 + k) = x by have := hXX.out; omega])
          have hb256 : M8 / 256 ^ x % 256 < 256 := Nat.mod_lt _ (by decide)
          generalize hBB : M8 / 256 ^ x % 256 = B at *
          clear hBB
          obtain ⟨g2, cap2, rfl, hgc2, _⟩ := HS.out.row
          go_wp2_with (first | (at_builtin; refine wpPush rfl (.tmp 24) (.tmp 30) rfl (w := w) _ (N - 8 + k) B (pad (bn s) s.size) rfl (HS.out.later (below_box _ _)) _ _ rfl (one8 _ B _) HB.out (by have := hP.out; omega) ?_; intro v3 W3 h3; have S3 := hid_in h3; clear h3))
          have hT := S3.out.slen
          exact ⟨⟨k + 1, HL.out, by have := hXX.out; simp; omega, S3⟩, by have := hXX.out; simp [intOf]; omega⟩
        · have q2 : ¬ ((0 : Int) ≤ 7 - (k : Int)) := by omega
          have hk8 := hid_in (show N - 8 + k = N by have := hP.out; omega)
          go_wp2_with fail
          go_ret
          have h1 := HS.out
          rw [hk8.out] at h1
          exact ⟨_, rfl, h1⟩
    · have q1 : ¬ (p : Int) % 64 = 56 := by omega
      have hE := hid_in (show p + 1 ≤ N - 8 by have := hP.out; omega)
      have HZ := hid_in (show 0 = pad (bn s) s.size p from (pad_zero (by omega) (by rw [HN.out]; have := hE.out; omega)).symm)
      go_wp2_with (first | (at_builtin; refine wpPush rfl (.tmp 14) (.tmp 15) rfl (w := w) _ p 0 (pad (bn s) s.size) rfl (HS.out.later (below_box _ _)) _ _ rfl (one8 _ 0 _) HZ.out (by have := hP.out; omega) ?_; intro v3 W3 h3; have S3 := hid_in h3; clear h3))
      have hT := S3.out.slen
      exact ⟨⟨p + 1, by have := HA.out; omega, hE.out, S3⟩, by rw [hT]; have := hE.out; have := hP.out; simp only [slen]; omega⟩
end Go.Proofs.YtgamakiejaeeeaaDoor
