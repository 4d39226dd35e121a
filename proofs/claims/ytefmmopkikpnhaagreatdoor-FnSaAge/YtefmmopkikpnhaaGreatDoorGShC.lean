/- What is proved: the contracts of ShaN, ShaO, ShaP, ShaQ, one behind the other. The conditions stand at each theorem. -/
import Derived.Test.YtefmmopkikpnhaaGreatDoorGShB
import Derived.Laws.IdiomCopy
namespace Go.Proofs.YtefmmopkikpnhaaGreatDoor
open Go.RowKit Go.LatT Go.BlockM Go.PlainAid Go.OpnT Go.ApdG Go.BytM Go.AesM Go.RowQ
set_option linter.unusedVariables false
set_option linter.unusedSimpArgs false
/-- Bytes that lie in a row of the call's own, whatever marks it bears. -/
structure PB (w W : World) (v : Value) (n : Nat) (f : Nat → Nat) : Prop where
  bel : Below w.heap.size w W
  row : ∃ g cap, v = .slice (some ⟨g, 0, none⟩) n cap ∧ n ≤ cap ∧ w.heap.size ≤ g ∧ g < W.heap.size ∧ (∀ i, i < n → W.cell? ⟨g, i, none⟩ = some (.int .u8 (f i : Int))) ∧ (∀ i, i < cap → (W.cell? ⟨g, i, none⟩).isSome = true) ∧ ∀ i, i < cap → W.frozen? ⟨g, i, none⟩ = false
theorem PB.later {w W W' : World} {v : Value} {n : Nat} {f : Nat → Nat} (h : PB w W v n f) (hb : Below W.heap.size W W') : PB w W' v n f := by
  obtain ⟨g, cap, e, h1, h2, h3, h4, h5, h6⟩ := h.row
  refine ⟨below_later h.bel hb, g, cap, e, h1, h2, Nat.lt_of_lt_of_le h3 hb.size, fun i hi => (hb.cell (p := ⟨g, i, none⟩) h3).trans (h4 i hi), fun i hi => ?_, fun i hi => (hb.frozen (p := ⟨g, i, none⟩) h3).trans (h6 i hi)⟩
  rw [hb.cell (p := ⟨g, i, none⟩) h3]; exact h5 i hi
theorem PB.congr {w W : World} {v : Value} {n : Nat} {f f' : Nat → Nat} (h : PB w W v n f) (e : ∀ i, i < n → f i = f' i) : PB w W v n f' := by
  obtain ⟨g, cap, e0, h1, h2, h3, h4, h5, h6⟩ := h.row
  exact ⟨h.bel, g, cap, e0, h1, h2, h3, fun i hi => by rw [h4 i hi, e i hi], h5, h6⟩
theorem run_push (w W : World) (v : Value) (n b : Nat) (f : Nat → Nat) (hP : PB w W v n f) (ty : TypeId) (ad : Addr) (c : Nat) (hb : W.cell? ad = some (.int .u8 (b : Int))) (hbn : b = f n) (hn : n ≤ 4000000) :
    ∃ v' W', (Builtin.append_ #[25, 25] ty #[v, .slice (some ad) 1 c]).run Tryz.prog W = .ok v' W' ∧ PB w W' v' (n + 1) f := by
  obtain ⟨i, by_, hi, hz, hsz, hbb, hb'⟩ := elemB.info
  obtain ⟨g, cap, rfl, h1, h2, h3, h4, h5, h6⟩ := hP.row
  have hnews : ∀ j u, ([.int .u8 (b : Int)] : List Value)[j]? = some u → W.cell? (ad.add j) = some u := by
    intro j u hu
    match j, hu with
    | 0, hu => simp at hu; subst hu; simpa [Addr.add] using hb
    | j + 1, hu => simp at hu
  by_cases hroom : n + 1 ≤ cap
  · have hf := run_firstCells_some (P := Tryz.prog) W i.size 1 ad 1 c [.int .u8 (b : Int)] (by rw [hsz]; simp) hnews
    have hst := run_storeCells_cells (P := Tryz.prog) g n [.int .u8 (b : Int)] 0 W (fun j hj => by simp at hj; subst hj; exact h5 _ (by omega)) (fun j hj => by simp at hj; subst hj; exact h6 _ (by omega)) (by intro u hu; simp at hu; subst hu; rfl)
    simp only [Nat.add_zero] at hst
    refine ⟨.slice (some ⟨g, 0, none⟩) (n + 1) cap, W.setCells g n [.int .u8 (b : Int)], ?_, ?_⟩
    · rw [hsz] at hf
      simp [Builtin.append_, run_underlying elemB.under, sizeOf, typeInfo, hi, hsz, Builtin.lenOf, hroom, hf, Addr.add_lit, hst]
    · have e : W.setCells g n [.int .u8 (b : Int)] = W.setCell ⟨g, n, none⟩ (.int .u8 (b : Int)) := rfl
      rw [e]
      have hset : ∀ o, o ≠ n → (W.setCell ⟨g, n, none⟩ (.int .u8 (b : Int))).cell? ⟨g, o, none⟩ = W.cell? ⟨g, o, none⟩ := fun o ho =>
        World.cell?_setCell_other _ _ _ _ (fun e => ho (congrArg Addr.off e).symm)
      have hsm : (W.setCell ⟨g, n, none⟩ (.int .u8 (b : Int))).cell? ⟨g, n, none⟩ = some (.int .u8 (b : Int)) := World.cell?_setCell_same' _ _ _ (h5 n (by omega))
      refine ⟨hP.bel.setCell h2 _, g, cap, rfl, hroom, h2, by simpa using h3, fun i hi => ?_, fun i hi => ?_, fun i hi => by rw [World.frozen?_setCell]; exact h6 i hi⟩
      · by_cases e : i = n
        · subst e; rw [hsm, hbn]
        · rw [hset i e]; exact h4 i (by omega)
      · by_cases e : i = n
        · subst e; rw [hsm]; rfl
        · rw [hset i e]; exact h5 i hi
  · have hlo : ((List.range n).map fun i => Value.int .u8 (f i : Int)).length = n * i.size := by rw [hsz]; simp
    have hr := run_append_grow (P := Tryz.prog) W 25 ty 5 i _ elemB.under hi hz ⟨g, 0, none⟩ n cap ((List.range n).map fun i => Value.int .u8 (f i : Int)) hlo (fun j u hu => by
      rw [add_at, Nat.zero_add]
      have hj : j < n := by have := (List.getElem?_eq_some_iff.1 hu).1; simpa using this
      rw [h4 j hj]
      rw [List.getElem?_map, List.getElem?_range hj] at hu
      exact hu) ad 1 c [.int .u8 (b : Int)] (by rw [hsz]; rfl) hnews (by omega) (by omega) (growslice_fits (by omega) (by rw [hbb]; exact Nat.le_trans (Nat.mul_le_mul (show n + 1 ≤ 4000001 by omega) hb') (by omega)))
    refine ⟨_, _, hr, ?_⟩
    have hge := grownCap_ge W (n + 1) cap 5
    generalize grownCap W (n + 1) cap 5 = C at *
    have hbel : Below w.heap.size w (W.drew.alloc (.cells (((List.range n).map fun i => Value.int .u8 (f i : Int)).toArray ++ [Value.int .u8 (b : Int)].toArray ++ Builtin.zeroCells (Value.int .u8 0).cells (C - (n + 1))) 5)) := hP.bel.drew.alloc hP.bel.size _
    have hrow : (W.drew.alloc (.cells (((List.range n).map fun i => Value.int .u8 (f i : Int)).toArray ++ [Value.int .u8 (b : Int)].toArray ++ Builtin.zeroCells (Value.int .u8 0).cells (C - (n + 1))) 5)).heap[W.heap.size]? = some (.cells _ 5 (0, 0)) := heap_alloc_new W.drew _
    refine ⟨hbel, W.heap.size, C, rfl, hge, hP.bel.size, by simp, fun i hi => ?_, fun i hi => ?_, fun i hi => frozen_of_row _ _ _ _ _ hrow⟩
    · rw [cell_of_row _ _ _ _ _ _ hrow]
      rw [Array.getElem?_append_left (by simp; omega)]
      by_cases e : i = n
      · subst e
        rw [Array.getElem?_append_right (by simp)]
        simp [hbn]
      · rw [Array.getElem?_append_left (by simp; omega)]
        simp [show i < n by omega]
    · rw [cell_of_row _ _ _ _ _ _ hrow]
      simp [size_zeroCells, Value.cells]
      omega
theorem wpPush {ops : Array Oper} {rest : List Oper} {o : Oper} {a : Act} {Q : Exit → Act → World → Prop} {w W : World} (hgd : o.guard = none) (s x : Operand)
    (ho : o.op = .call { callee := .builtin .append, args := #[s, x], argTypes := #[25, 25] })
    (v : Value) (n b : Nat) (f : Nat → Nat) (hs : a.eval s = v) (hP : PB w W v n f) (ad : Addr) (c : Nat) (hx : a.eval x = .slice (some ad) 1 c) (hb : W.cell? ad = some (.int .u8 (b : Int))) (hbn : b = f n) (hn : n ≤ 4000000)
    (h : ∀ v' W', PB w W' v' (n + 1) f → wpList Tryz.prog ops Q rest (a.put o.dst v') W') : wpList Tryz.prog ops Q (o :: rest) a W := by
  obtain ⟨v', W', hr, h2⟩ := run_push w W v n b f hP o.type ad c hb hbn hn
  refine wpList_plain hgd fun _ hK => ?_
  unfold Oper.wp execOp
  simp only [ho, resolve, invoke, builtin, Sem.run_bind, Sem.run_pure, Result.andThen_ok, List.map_toArray, List.map_cons, List.map_nil, hs, hx, hr]
  exact hK _ _ (h v' W' h2)
theorem one8 (W : World) (b : Nat) (t : TypeId) : (W.alloc (.cells #[.int .u8 (b : Int)] t)).cell? ⟨W.heap.size, 0, none⟩ = some (.int .u8 (b : Int)) := by
  rw [cell_of_row _ _ _ _ _ _ (heap_alloc_new W _)]
  rfl
theorem PB.of_text (u : ByteArray) (w : World) (f : Nat → Nat) (hf : ∀ i, i < u.size → bn u i = f i) : ∃ W c, (convert 9 25 (.string u)).run Tryz.prog w = .ok (.slice (some ⟨w.heap.size, 0, none⟩) u.size c) W ∧ PB w W (.slice (some ⟨w.heap.size, 0, none⟩) u.size c) u.size f := by
  refine ⟨_, _, run_bytes_of_string w 9 25 5 u Tryz.underlying9 Tryz.underlying25 Tryz.underlying5, ?_, w.heap.size, _, rfl, ?_, Nat.le_refl _, by simp, fun j hj => ?_, fun j hj => ?_, fun j hj => ?_⟩
  · show Below _ _ _; go_grown
  · exact grownCap_ge _ _ _ _
  · have h1 := World.cell?_alloc_mark w.drew (bytesRow u (grownCap w u.size 0 5)) 5 ((bytesRow u (grownCap w u.size 0 5)).size, (bytesRow u (grownCap w u.size 0 5)).size + 1) j
    have h2 := bytesRow_at u (grownCap w u.size 0 5) j hj
    rw [h2] at h1
    have e : bt u j = (u.data[j].toNat : Int) := by unfold bt; rw [dif_pos hj]; rfl
    rw [← hf j hj, bn_int, e]
    exact h1
  · have h1 := World.cell?_alloc_mark w.drew (bytesRow u (grownCap w u.size 0 5)) 5 ((bytesRow u (grownCap w u.size 0 5)).size, (bytesRow u (grownCap w u.size 0 5)).size + 1) j
    have h2 : j < (bytesRow u (grownCap w u.size 0 5)).size := by simp [bytesRow]; omega
    have h3 : (bytesRow u (grownCap w u.size 0 5))[j]? = some (bytesRow u (grownCap w u.size 0 5))[j] := Array.getElem?_eq_getElem h2
    rw [h3] at h1
    exact Option.isSome_iff_exists.2 ⟨_, h1⟩
  · have h1 := World.frozen?_alloc_mark w.drew (bytesRow u (grownCap w u.size 0 5)) 5 (bytesRow u (grownCap w u.size 0 5)).size ((bytesRow u (grownCap w u.size 0 5)).size + 1) j
    have h2 : j < (bytesRow u (grownCap w u.size 0 5)).size := by simp [bytesRow]; omega
    rw [show (decide ((bytesRow u (grownCap w u.size 0 5)).size ≤ j)) = false by simp; omega, Bool.false_and] at h1
    exact h1
def slen : Value → Nat
  | .slice _ n _ => n
  | _ => 0
theorem PB.slen {w W : World} {v : Value} {n : Nat} {f : Nat → Nat} (h : PB w W v n f) : slen v = n := by
  obtain ⟨g, cap, rfl, _⟩ := h.row
  rfl
set_option maxHeartbeats 2000000 in
set_option maxRecDepth 100000 in
theorem l7Padded_any (s : ByteArray) (w : World) (hs : s.size ≤ 3000000) :
    Calls Tryz.prog 110 #[.string s] w fun e w' => ∃ v, e = .returned v ∧ PB w w' v (padN s.size) (pad (bn s) s.size) := by
  obtain ⟨N, hN⟩ : ∃ N, padN s.size = N := ⟨_, rfl⟩
  have HN := hid_in hN
  have hP := hid_in (show N = 64 * ((s.size + 8) / 64 + 1) by rw [← hN]; rfl)
  obtain ⟨W1, c, hcv, hS1⟩ := PB.of_text s w (pad (bn s) s.size) (fun i hi => (pad_low hi).symm)
  have S1 := hid_in hS1
  have HE := hid_in (show (128 : Nat) = pad (bn s) s.size s.size from pad_at.symm)
  rw [hN]
  clear hN hS1
  go_enter Tryz.func110, Tryz.ntmps110
  go_wp2_with (first | (at_builtin; refine wpPush rfl (.tmp 7) (.tmp 8) rfl (w := w) _ s.size 128 (pad (bn s) s.size) rfl (S1.out.later (below_box _ _)) _ _ rfl (one8 _ 128 _) HE.out (by omega) ?_; intro v2 W2 h2; have S2 := hid_in h2; clear h2))
  go_loopw [3] (fun v wr => ∃ p : Nat, s.size + 1 ≤ p ∧ p ≤ N - 8 ∧ Hid (PB w wr v p (pad (bn s) s.size))) (fun v _ => N - slen v)
  case atStart => exact ⟨s.size + 1, Nat.le_refl _, by have := hP.out; omega, S2⟩
  case round =>
    clear S2 S1
    obtain ⟨p, hp1, hp2, HS⟩ := hrel
    obtain ⟨g, cap, rfl, hgc, _⟩ := HS.out.row
    have HA := hid_in hp1
    by_cases h56 : p % 64 = 56
    · have q1 : (p : Int) % 64 = 56 := by omega
      have hE := hid_in (show p = N - 8 by have := hP.out; omega)
      obtain ⟨M8, hM8'⟩ : ∃ M, 8 * s.size = M := ⟨_, rfl⟩
      have eM : (s.size : Int) * 8 = (M8 : Int) := by omega
      have hMl : M8 ≤ 24000000 := by omega
      have hM8 := hid_in hM8'
      clear hM8'
      go_wp2_with fail
      go_loopw [3, 5] (fun v u wr => ∃ k : Nat, k ≤ 8 ∧ u = .int .i64 (7 - (k : Int)) ∧ Hid (PB w wr v (N - 8 + k) (pad (bn s) s.size))) (fun _ u _ => (intOf u + 1).toNat)
      case atStart => exact ⟨0, Nat.zero_le _, by simp, by show PB _ _ _ _ _; have h1 := HS.out; rw [show N - 8 + 0 = p by have := hE.out; omega]; exact h1⟩
      case round =>
        clear HS HA q1 hE
        obtain ⟨k, hk, rfl, HS⟩ := hrel
        by_cases hlt : k < 8
        · have HL := hid_in hlt
          obtain ⟨x, hx⟩ : ∃ x, 7 - k = x := ⟨_, rfl⟩
          have ex : (7 : Int) - (k : Int) = (x : Int) := by omega
          have hx7 : x ≤ 7 := by omega
          have hXX := hid_in hx
          clear hx
          have hp : ((M8 : Int) / 2 ^ (8 * x) % 256) = ((M8 / 256 ^ x % 256 : Nat) : Int) := by rw [pow256]; simp
          have HB := hid_in (show M8 / 256 ^ x % 256 = pad (bn s) s.size (N - 8 + k) by
            have h1 := hP.out
            rw [pad_end (by rw [HN.out]; omega), HN.out, hM8.out, show N - 1 - (N - 8 + k) = x by have := hXX.out; omega])
          have hb256 : M8 / 256 ^ x % 256 < 256 := Nat.mod_lt _ (by decide)
          generalize hBB : M8 / 256 ^ x % 256 = B at *
          clear hBB
          obtain ⟨g2, cap2, rfl, hgc2, _⟩ := HS.out.row
          go_wp2_with (first | (at_builtin; refine wpPush rfl (.tmp 24) (.tmp 30) rfl (w := w) _ (N - 8 + k) B (pad (bn s) s.size) rfl (HS.out.later (below_box _ _)) _ _ rfl (one8 _ B _) HB.out (by have := hP.out; omega) ?_; intro v3 W3 h3; have S3 := hid_in h3; clear h3))
          have hT := S3.out.slen
          exact ⟨⟨k + 1, HL.out, by have := hXX.out; simp; omega, S3⟩, by have := hXX.out; simp [intOf]; omega⟩
        · have q2 : ¬ ((0 : Int) ≤ 7 - (k : Int)) := by omega
          have hk8 := hid_in (show N - 8 + k = N by have := hP.out; omega)
          go_wp2_with fail
          go_ret
          have h1 := HS.out
          rw [hk8.out] at h1
          exact ⟨_, rfl, h1⟩
    · have q1 : ¬ (p : Int) % 64 = 56 := by omega
      have hE := hid_in (show p + 1 ≤ N - 8 by have := hP.out; omega)
      have HZ := hid_in (show 0 = pad (bn s) s.size p from (pad_zero (by omega) (by rw [HN.out]; have := hE.out; omega)).symm)
      go_wp2_with (first | (at_builtin; refine wpPush rfl (.tmp 14) (.tmp 15) rfl (w := w) _ p 0 (pad (bn s) s.size) rfl (HS.out.later (below_box _ _)) _ _ rfl (one8 _ 0 _) HZ.out (by have := hP.out; omega) ?_; intro v3 W3 h3; have S3 := hid_in h3; clear h3))
      have hT := S3.out.slen
      exact ⟨⟨p + 1, by have := HA.out; omega, hE.out, S3⟩, by rw [hT]; have := hE.out; have := hP.out; simp only [slen]; omega⟩
end Go.Proofs.YtefmmopkikpnhaaGreatDoor

namespace Go.Proofs.YtefmmopkikpnhaaGreatDoor
open Go.RowKit Go.LatT Go.BlockM Go.PlainAid Go.OpnT Go.ApdG Go.BytM Go.AesM Go.RowQ
set_option linter.unusedVariables false
set_option linter.unusedSimpArgs false
/-- What lies where while a block is put into a sum. -/
structure BS (w W : World) (gh gw gk gs : Nat) (s b F : Nat → Nat) : Prop where
  bel : Below w.heap.size w W
  h : UR W gh 8 s
  wd : UR W gw 64 (wds b)
  k : UR W gk 64 kst
  s : UR W gs 8 F
  fz : ∀ i, W.frozen? ⟨gs, i, none⟩ = false
  ne : w.heap.size ≤ gs ∧ gs ≠ gh ∧ gs ≠ gw ∧ gs ≠ gk
section
variable {w W W' : World} {gh gw gk gs : Nat} {s b F F' : Nat → Nat}
theorem BS.later (x : BS w W gh gw gk gs s b F) (hb : Below W.heap.size W W') : BS w W' gh gw gk gs s b F :=
  ⟨below_later x.bel hb, x.h.at hb x.h.lt, x.wd.at hb x.wd.lt, x.k.at hb x.k.lt, x.s.at hb x.s.lt, fun i => (hb.frozen (p := ⟨gs, i, none⟩) x.s.lt).trans (x.fz i), x.ne⟩
theorem BS.drewN (x : BS w W gh gw gk gs s b F) (n : Nat) : BS w (W.drewN n) gh gw gk gs s b F := ⟨⟨x.bel.os, x.bel.tape, x.bel.output, x.bel.size, x.bel.block⟩, ⟨x.h.lt, x.h.cell⟩, ⟨x.wd.lt, x.wd.cell⟩, ⟨x.k.lt, x.k.cell⟩, ⟨x.s.lt, x.s.cell⟩, x.fz, x.ne⟩
theorem BS.drew (x : BS w W gh gw gk gs s b F) : BS w W.drew gh gw gk gs s b F := ⟨⟨x.bel.os, x.bel.tape, x.bel.output, x.bel.size, x.bel.block⟩, ⟨x.h.lt, x.h.cell⟩, ⟨x.wd.lt, x.wd.cell⟩, ⟨x.k.lt, x.k.cell⟩, ⟨x.s.lt, x.s.cell⟩, x.fz, x.ne⟩
theorem UR.set_other {g n g' o : Nat} {f : Nat → Nat} {v : Value} (h : UR W g n f) (hne : g ≠ g') : UR (W.setCell ⟨g', o, none⟩ v) g n f :=
  ⟨by simpa using h.lt, fun i hi => (World.cell?_setCell_other _ _ _ _ (fun e => hne (congrArg Addr.block e).symm)).trans (h.cell i hi)⟩
theorem UR.congr {g n : Nat} {f f' : Nat → Nat} (h : UR W g n f) (e : ∀ i, i < n → f i = f' i) : UR W g n f' := ⟨h.lt, fun i hi => by rw [h.cell i hi, e i hi]⟩
theorem BS.set (x : BS w W gh gw gk gs s b F) (k v : Nat) (hk : k < 8) (e : ∀ i, i < 8 → (if i = k then v else F i) = F' i) : BS w (W.setCell ⟨gs, k, none⟩ (.int .u32 (v : Int))) gh gw gk gs s b F' := by
  refine ⟨x.bel.setCell x.ne.1 _, x.h.set_other (fun e => x.ne.2.1 e.symm), x.wd.set_other (fun e => x.ne.2.2.1 e.symm), x.k.set_other (fun e => x.ne.2.2.2 e.symm), ⟨by simpa using x.s.lt, fun i hi => ?_⟩, fun i => by rw [World.frozen?_setCell]; exact x.fz i, x.ne⟩
  rw [← e i hi]
  by_cases h : i = k
  · subst h
    rw [if_pos rfl]
    exact World.cell?_setCell_same' _ _ _ (by rw [x.s.cell i hi]; rfl)
  · rw [if_neg h]
    exact (World.cell?_setCell_other _ _ _ _ (fun e => h (congrArg Addr.off e).symm)).trans (x.s.cell i hi)
theorem BS.congr (x : BS w W gh gw gk gs s b F) (e : ∀ i, i < 8 → F i = F' i) : BS w W gh gw gk gs s b F' := ⟨x.bel, x.h, x.wd, x.k, x.s.congr e, x.fz, x.ne⟩
end
theorem owns_base {w : World} {B B' size n : Nat} {e : TypeId} {v : Value} {xs : List Value} (h : w.ownsRow B e size v n xs) (hB : B' ≤ B) : w.ownsRow B' e size v n xs := by
  obtain ⟨h1, h2⟩ := h
  refine ⟨h1, ?_⟩
  rcases h2 with h2 | ⟨g, cap, cur, e1, e2, e3, e4, e5, e6, e7⟩
  · exact .inl h2
  · exact .inr ⟨g, cap, cur, e1, Nat.le_trans hB e2, e3, e4, e5, e6, e7⟩
theorem rs3 (x a b c : Nat) : rr x a ^^^ rr x b ^^^ rr x c = rs x [a, b, c] := by simp [rs]
theorem xx3 (x a b c : Nat) (hx : x < 4294967296) : bits BinOp.xor IntKind.u32 (bits BinOp.xor IntKind.u32 (rr x a : Int) (rr x b : Int)) (rr x c : Int) = (rs x [a, b, c] : Int) := by
  rw [xor32 _ _ (rr_lt x a hx) (rr_lt x b hx), xor32 _ _ (Nat.xor_lt_two_pow (n := 32) (rr_lt x a hx) (rr_lt x b hx)) (rr_lt x c hx), rs3]
theorem chE (E F G : Nat) (hE : E < 4294967296) (hF : F < 4294967296) (hG : G < 4294967296) : bits BinOp.xor IntKind.u32 (bits BinOp.and IntKind.u32 (E : Int) (F : Int)) (bits BinOp.and IntKind.u32 (bits BinOp.xor IntKind.u32 IntKind.u32.max (E : Int)) (G : Int)) = ((((E &&& F) ^^^ ((4294967295 - E) &&& G)) : Nat) : Int) := by
  rw [not32 E hE, and32 E F hE hF, and32 (4294967295 - E) G (by omega) hG, xor32 _ _ (Nat.and_lt_two_pow (n := 32) E hF) (Nat.and_lt_two_pow (n := 32) _ hG)]
theorem mjE (A B C : Nat) (hA : A < 4294967296) (hB : B < 4294967296) (hC : C < 4294967296) : bits BinOp.xor IntKind.u32 (bits BinOp.xor IntKind.u32 (bits BinOp.and IntKind.u32 (A : Int) (B : Int)) (bits BinOp.and IntKind.u32 (A : Int) (C : Int))) (bits BinOp.and IntKind.u32 (B : Int) (C : Int)) = ((((A &&& B) ^^^ (A &&& C) ^^^ (B &&& C)) : Nat) : Int) := by
  rw [and32 A B hA hB, and32 A C hA hC, and32 B C hB hC, xor32 _ _ (Nat.and_lt_two_pow (n := 32) _ hB) (Nat.and_lt_two_pow (n := 32) _ hC), xor32 _ _ (Nat.xor_lt_two_pow (n := 32) (Nat.and_lt_two_pow (n := 32) _ hB) (Nat.and_lt_two_pow (n := 32) _ hC)) (Nat.and_lt_two_pow (n := 32) _ hC)]
theorem addE (H R C Y X : Nat) : ((((H : Int) + (R : Int) + (C : Int) + (Y : Int)) % 4294967296 + (X : Int)) % 4294967296) = (((H + R + C + Y + X) % 4294967296 : Nat) : Int) := by omega
theorem uC_one (n : Nat) (f : Nat → Nat) : ∀ u ∈ uC n f, u.oneCell' = true := by
  intro u hu
  simp [uC] at hu
  obtain ⟨i, _, rfl⟩ := hu
  rfl
set_option maxHeartbeats 8000000 in
set_option maxRecDepth 100000 in
theorem l7Block_any (gh ch gb ob cb : Nat) (s b : Nat → Nat) (w : World) (hH : UR w gh 8 s) (hB : BR w gb ob 64 b) (hs : ∀ i, i < 8 → s i < 4294967296) (hb : ∀ i, i < 64 → b i < 256) (hc : 64 ≤ cb) :
    Calls Tryz.prog 111 #[.slice (some ⟨gh, 0, none⟩) 8 ch, .slice (some ⟨gb, ob, none⟩) 64 cb] w fun e w' => MkU w 8 (shm b s) e w' := by
  have HH := hid_in hH; have HT := hid_in hs; have HY := hid_in hb
  have HW0 := hid_in (l7Words_any gb ob cb b w hB hb hc)
  have hgl := hH.lt
  clear hH hB hs hb
  go_enter Tryz.func111, Tryz.ntmps111
  go_wp2_with fail
  refine HW0.out.mono ?_
  rintro e w1 ⟨v1, rfl, ho1, hb1⟩
  obtain ⟨gw, cw, rfl, hcw, hgw, RW, _⟩ := ho1.row (by omega)
  have H1 := hid_in (HH.out.at hb1 hgl)
  have B1 := hid_in hb1
  have RW1 := hid_in RW
  clear HW0 ho1 hb1 RW HH
  go_wp2_with fail
  refine (l7Consts_any w1).mono ?_
  rintro e w2 ⟨v2, rfl, ho2, hb2⟩
  obtain ⟨gk, ck, rfl, hck, hgk, RK, _⟩ := ho2.row (by omega)
  have H2 := hid_in (H1.out.at hb2 H1.out.lt)
  have RW2 := hid_in (RW1.out.at hb2 RW1.out.lt)
  have B2 := hid_in (below_later B1.out hb2)
  have RK2 := hid_in RK
  have hne := hid_in (show gw < w2.heap.size ∧ gk < w2.heap.size ∧ gh < w2.heap.size from ⟨RW2.out.lt, RK.lt, H2.out.lt⟩)
  clear ho2 hb2 RK H1 RW1 B1
  go_wp2_with (first | (at_builtin; refine wpG elemU rfl (.tmp 20) (.tmp 21) rfl w2.heap.size (.slice (some ⟨w2.heap.size, 0, none⟩) 0 0) 0 [] rfl (World.ownsRow_lit w2 #[] 0 (Nat.le_refl _) (Nat.zero_le _) rfl) ⟨gh, 0, none⟩ 8 ch (uC 8 s) rfl (by rw [uC_len]) (fun j u hu => by
    have hj : j < 8 := by have := (List.getElem?_eq_some_iff.1 hu).1; rwa [uC_len] at this
    rw [uC_get 8 s j hj] at hu
    rw [add_at, Nat.zero_add, ← hu]
    exact ((below_box w2 _).cell (p := ⟨gh, j, none⟩) H2.out.lt).trans (H2.out.cell j hj)) (uC_one 8 s) (by omega) (by simp) ?_; intro v3 w3 o3 g3 n3; have O3 := hid_in o3; have G3 := hid_in g3; clear o3 g3 n3))
  have hB3 : Below w2.heap.size w2 w3 := (below_box w2 _).trans (grown_below G3.out (by simp) (fun k hk => by simp [Value.ownBlock] at hk; omega))
  have O3' : OU w3 w2.heap.size v3 8 s := by have h := O3.out; simpa [OU] using h
  obtain ⟨gs, cs, rfl, hcs, hgs, RS, hfs⟩ := O3'.row (by omega)
  have S3 := hid_in (show BS w w3 gh gw gk gs s b s from ⟨below_later B2.out hB3, H2.out.at hB3 hne.out.2.2, RW2.out.at hB3 hne.out.1, RK2.out.at hB3 hne.out.2.1, RS, hfs, Nat.le_trans B2.out.size hgs, by have := hne.out; omega, by have := hne.out; omega, by have := hne.out; omega⟩)
  clear hB3 O3' O3 G3 H2 RW2 RK2 hne B2 RS hfs
  go_loopw [8] (fun u wr => ∃ k : Nat, k ≤ 64 ∧ u = .int .i64 (k : Int) ∧ Hid (BS w wr gh gw gk gs s b (sh b s k))) (fun u _ => 64 - (intOf u).toNat)
  case atStart => exact ⟨0, Nat.zero_le _, rfl, S3⟩
  case round =>
    clear S3
    obtain ⟨k, hk, rfl, HS⟩ := hrel
    by_cases hlt : k < 64
    · have HL := hid_in hlt
      have q1 : (k : Int) < 64 := by omega
      have hst := sh_lt (b := b) HT.out k
      have h0 := hst 0 (by omega)
      have h1 := hst 1 (by omega)
      have h2 := hst 2 (by omega)
      have h4 := hst 4 (by omega)
      have h5 := hst 5 (by omega)
      have h6 := hst 6 (by omega)
      have c0 := HS.out.s.cell 0 (by omega)
      have c1 := HS.out.s.cell 1 (by omega)
      have c2 := HS.out.s.cell 2 (by omega)
      have c4 := HS.out.s.cell 4 (by omega)
      have c5 := HS.out.s.cell 5 (by omega)
      have c6 := HS.out.s.cell 6 (by omega)
      have c7 := HS.out.s.cell 7 (by omega)
      have cw' := HS.out.wd.cell k hlt
      have ck' := HS.out.k.cell k hlt
      have l1 := HS.out.s.lt
      have l2 := HS.out.wd.lt
      have l3 := HS.out.k.lt
      clear hst
      obtain ⟨F, hF⟩ : ∃ F, sh b s k = F := ⟨_, rfl⟩
      have HF := hid_in (show ∀ i, sh b s (k + 1) i = shs (kst k) (wds b k) F i by intro i; rw [← hF]; rfl)
      rw [hF] at c0 c1 c2 c4 c5 c6 c7 h0 h1 h2 h4 h5 h6 HS
      clear hF
      go_wp2_with fail
      refine wp_region_lat (Below.refl _ _) (by kernel_rfl) (by kernel_rfl) ?_
      intro hne hcl
      repeat (go_big_quiet_step (first | (go_at_call_of 163 (Value.int IntKind.i64 6); exact lat_of (l7Turn_any (F 4) 6 _ h4 (by omega) (by omega))) | (go_at_call_of 163 (Value.int IntKind.i64 11); exact lat_of (l7Turn_any (F 4) 11 _ h4 (by omega) (by omega))) | (go_at_call_of 163 (Value.int IntKind.i64 25); exact lat_of (l7Turn_any (F 4) 25 _ h4 (by omega) (by omega)))))
      refine wpQuiet_nil ?_
      intro w1 hb1
      obtain ⟨hc1, hf1⟩ := bcell hb1
      clear hne hcl
      rw [xx3 (F 4) 6 11 25 h4]
      have HS1 := hid_in (HS.out.later hb1)
      clear hb1 hc1 hf1 HS
      clear c0 c1 c2 c4 c5 c6 c7 cw' ck' l1 l2 l3
      have c0 := HS1.out.s.cell 0 (by omega)
      have c1 := HS1.out.s.cell 1 (by omega)
      have c2 := HS1.out.s.cell 2 (by omega)
      have c4 := HS1.out.s.cell 4 (by omega)
      have c5 := HS1.out.s.cell 5 (by omega)
      have c6 := HS1.out.s.cell 6 (by omega)
      have c7 := HS1.out.s.cell 7 (by omega)
      have cw' := HS1.out.wd.cell k HL.out
      have ck' := HS1.out.k.cell k HL.out
      have l1 := HS1.out.s.lt
      have l2 := HS1.out.wd.lt
      have l3 := HS1.out.k.lt
      go_wp2_with fail
      go_quiet (fail)
      have HS2 := hid_in (HS1.out.drewN nq)
      rw [show (if IntKind.u32.signed = true then (-1 : Int) else IntKind.u32.max) = IntKind.u32.max from rfl, chE (F 4) (F 5) (F 6) h4 h5 h6]
      generalize w1.drewN nq = w4 at *
      clear HS1
      clear c0 c1 c2 c4 c5 c6 c7 cw' ck' l1 l2 l3
      have c0 := HS2.out.s.cell 0 (by omega)
      have c1 := HS2.out.s.cell 1 (by omega)
      have c2 := HS2.out.s.cell 2 (by omega)
      have c4 := HS2.out.s.cell 4 (by omega)
      have c5 := HS2.out.s.cell 5 (by omega)
      have c6 := HS2.out.s.cell 6 (by omega)
      have c7 := HS2.out.s.cell 7 (by omega)
      have cw' := HS2.out.wd.cell k HL.out
      have ck' := HS2.out.k.cell k HL.out
      have l1 := HS2.out.s.lt
      have l2 := HS2.out.wd.lt
      have l3 := HS2.out.k.lt
      go_wp2_with fail
      go_quiet (fail)
      have HS3 := hid_in (HS2.out.drewN nq)
      rw [addE (F 7) (rs (F 4) [6, 11, 25]) (F 4 &&& F 5 ^^^ (4294967295 - F 4) &&& F 6) (kst k) (wds b k)]
      generalize w4.drewN nq = w5 at *
      clear HS2
      clear c0 c1 c2 c4 c5 c6 c7 cw' ck' l1 l2 l3
      have c0 := HS3.out.s.cell 0 (by omega)
      have c1 := HS3.out.s.cell 1 (by omega)
      have c2 := HS3.out.s.cell 2 (by omega)
      have c4 := HS3.out.s.cell 4 (by omega)
      have c5 := HS3.out.s.cell 5 (by omega)
      have c6 := HS3.out.s.cell 6 (by omega)
      have c7 := HS3.out.s.cell 7 (by omega)
      have cw' := HS3.out.wd.cell k HL.out
      have ck' := HS3.out.k.cell k HL.out
      have l1 := HS3.out.s.lt
      have l2 := HS3.out.wd.lt
      have l3 := HS3.out.k.lt
      go_wp2_with fail
      refine wp_region_lat (Below.refl _ _) (by kernel_rfl) (by kernel_rfl) ?_
      intro hne hcl
      repeat (go_big_quiet_step (first | (go_at_call_of 163 (Value.int IntKind.i64 2); exact lat_of (l7Turn_any (F 0) 2 _ h0 (by omega) (by omega))) | (go_at_call_of 163 (Value.int IntKind.i64 13); exact lat_of (l7Turn_any (F 0) 13 _ h0 (by omega) (by omega))) | (go_at_call_of 163 (Value.int IntKind.i64 22); exact lat_of (l7Turn_any (F 0) 22 _ h0 (by omega) (by omega)))))
      refine wpQuiet_nil ?_
      intro w1 hb1
      obtain ⟨hc1, hf1⟩ := bcell hb1
      clear hne hcl
      rw [xx3 (F 0) 2 13 22 h0]
      have HS4 := hid_in (HS3.out.later hb1)
      generalize hww : w1 = w6 at *
      clear hww hb1 hc1 hf1 HS3
      clear c0 c1 c2 c4 c5 c6 c7 cw' ck' l1 l2 l3
      have c0 := HS4.out.s.cell 0 (by omega)
      have c1 := HS4.out.s.cell 1 (by omega)
      have c2 := HS4.out.s.cell 2 (by omega)
      have c4 := HS4.out.s.cell 4 (by omega)
      have c5 := HS4.out.s.cell 5 (by omega)
      have c6 := HS4.out.s.cell 6 (by omega)
      have c7 := HS4.out.s.cell 7 (by omega)
      have cw' := HS4.out.wd.cell k HL.out
      have ck' := HS4.out.k.cell k HL.out
      have l1 := HS4.out.s.lt
      have l2 := HS4.out.wd.lt
      have l3 := HS4.out.k.lt
      go_wp2_with fail
      go_quiet (fail)
      have HS5 := hid_in (HS4.out.drewN nq)
      rw [mjE (F 0) (F 1) (F 2) h0 h1 h2]
      generalize w6.drewN nq = w7 at *
      clear HS4
      clear c0 c1 c2 c4 c5 c6 c7 cw' ck' l1 l2 l3
      go_wp2_with fail
      obtain ⟨T, hT⟩ : ∃ T, F 7 + rs (F 4) [6, 11, 25] + (F 4 &&& F 5 ^^^ (4294967295 - F 4) &&& F 6) + kst k + wds b k = T := ⟨_, rfl⟩
      obtain ⟨A, hA⟩ : ∃ A, rs (F 0) [2, 13, 22] = A := ⟨_, rfl⟩
      obtain ⟨M, hM⟩ : ∃ M, F 0 &&& F 1 ^^^ F 0 &&& F 2 ^^^ F 1 &&& F 2 = M := ⟨_, rfl⟩
      have HF0 := hid_in ((HF.out 0).trans (show _ = (T + (A + M)) % 4294967296 by rw [nxt, hT, hA, hM]))
      have HF4 := hid_in ((HF.out 4).trans (show _ = (F 3 + T) % 4294967296 by rw [nxt4, hT]))
      have HFS := hid_in (show ∀ i, i ≠ 0 → i ≠ 4 → sh b s (k + 1) i = F (i - 1) from fun i e0 e4 => (HF.out i).trans (nxtS _ _ _ i e0 e4))
      rw [hT, hA, hM]
      clear hT hA hM HF h0 h1 h2 h4 h5 h6
      go_loopw [14] (fun u wr => ∃ n : Nat, n ≤ 7 ∧ u = .int .i64 (n : Int) ∧ Hid (BS w wr gh gw gk gs s b (fun i => if i ≤ n then F i else F (i - 1)))) (fun u _ => (intOf u).toNat)
      case atStart => exact ⟨7, Nat.le_refl _, rfl, HS5.out.congr (fun i hi => by rw [if_pos (by omega)])⟩
      case round =>
        clear HS5
        obtain ⟨n, hn, rfl, HV⟩ := hrel
        by_cases hn0 : 0 < n
        · have q2 : (0 : Int) < (n : Int) := by omega
          obtain ⟨j, hj⟩ : ∃ j, n - 1 = j := ⟨_, rfl⟩
          have ej : (n : Int) - 1 = (j : Int) := by omega
          have q3 : (j : Int) < 8 := by omega
          have q4 : (n : Int) < 8 := by omega
          have cj := HV.out.s.cell j (by omega)
          rw [if_pos (by omega)] at cj
          have cn := HV.out.s.cell n (by omega)
          have fn := HV.out.fz n
          have lg := HV.out.s.lt
          have HJ := hid_in (show j ≤ 7 ∧ j + 1 = n by omega)
          have wj : IntKind.i64.wrap (j : Int) = (j : Int) := by rw [IntKind.wrap_i64]; omega
          clear hj
          go_wp2_with fail
          refine ⟨⟨j, HJ.out.1, rfl, ?_⟩, by have := HJ.out; simp [intOf]; omega⟩
          refine HV.out.set n (F j) (by omega) (fun i hi => ?_)
          have := HJ.out.2
          show (if i = n then F j else if i ≤ n then F i else F (i - 1)) = if i ≤ j then F i else F (i - 1)
          by_cases e : i = n
          · rw [if_pos e, if_neg (by omega), show i - 1 = j by omega]
          · by_cases e2 : i ≤ j
            · rw [if_neg e, if_pos (by omega), if_pos e2]
            · rw [if_neg e, if_neg (by omega), if_neg e2]
        · have q2 : ¬ (0 : Int) < (n : Int) := by omega
          obtain rfl : n = 0 := by omega
          have c4 := HV.out.s.cell 4 (by omega)
          have c0 := HV.out.s.cell 0 (by omega)
          rw [if_neg (by omega)] at c4
          rw [if_pos (by omega)] at c0
          have f4 := HV.out.fz 4
          have f0 := HV.out.fz 0
          have lg := HV.out.s.lt
          have e4 : ((F 3 : Int) + (T : Int)) % 4294967296 = (((F 3 + T) % 4294967296 : Nat) : Int) := by omega
          have e0 : ((T : Int) + (A : Int) + (M : Int)) % 4294967296 = (((T + (A + M)) % 4294967296 : Nat) : Int) := by omega
          have E4 := hid_in e4; have E0 := hid_in e0
          clear e4 e0
          go_wp2_with fail
          refine ⟨⟨k + 1, HL.out, by simp, ?_⟩, by have := HL.out; simp [intOf]; omega⟩
          show BS _ _ _ _ _ _ _ _ _
          rw [E4.out, E0.out]
          have X4 := HV.out.set (F' := fun i => if i = 4 then (F 3 + T) % 4294967296 else if i ≤ 0 then F i else F (i - 1)) 4 ((F 3 + T) % 4294967296) (by omega) (fun i _ => rfl)
          refine X4.set 0 ((T + (A + M)) % 4294967296) (by omega) (fun i hi => ?_)
          show (if i = 0 then (T + (A + M)) % 4294967296 else if i = 4 then (F 3 + T) % 4294967296 else if i ≤ 0 then F i else F (i - 1)) = sh b s (k + 1) i
          by_cases z0 : i = 0
          · rw [if_pos z0, z0, HF0.out]
          · by_cases z4 : i = 4
            · rw [if_neg z0, if_pos z4, z4, HF4.out]
            · rw [if_neg z0, if_neg z4, if_neg (by omega), HFS.out i z0 z4]
    · have q1 : ¬ (k : Int) < 64 := by omega
      obtain rfl : k = 64 := by omega
      obtain ⟨w8, hw8⟩ : ∃ x, x = wr := ⟨_, rfl⟩
      subst hw8
      have HS6 := hid_in (show BS w w8 gh gw gk gs s b (sh b s 64) from HS.out)
      clear HS
      go_wp2_with fail
      have HU0 := hid_in (show US w8 (w8.alloc (.cells #[] 131)) (.slice (some ⟨w8.heap.size, 0, none⟩) 0 0) 0 (shm b s) from ⟨below_box _ _, World.ownsRow_lit w8 #[] 0 (Nat.le_refl _) (Nat.zero_le _) rfl⟩)
      go_loopw [15, 16] (fun v u wq => ∃ i : Nat, i ≤ 8 ∧ u = .int .i64 (i : Int) ∧ Hid (US w8 wq v i (shm b s))) (fun _ u _ => 8 - (intOf u).toNat)
      case atStart => exact ⟨0, Nat.zero_le _, rfl, HU0⟩
      case round =>
        clear HU0
        obtain ⟨i, hi, rfl, HU⟩ := hrel
        by_cases hlt2 : i < 8
        · have HL := hid_in hlt2
          have q2 : (i : Int) < 8 := by omega
          have ch' := (HU.out.bel.cell (p := ⟨gh, i, none⟩) HS6.out.h.lt).trans (HS6.out.h.cell i hlt2)
          have cs' := (HU.out.bel.cell (p := ⟨gs, i, none⟩) HS6.out.s.lt).trans (HS6.out.s.cell i hlt2)
          have l1 := Nat.lt_of_lt_of_le HS6.out.h.lt HU.out.bel.size
          have l2 := Nat.lt_of_lt_of_le HS6.out.s.lt HU.out.bel.size
          have hzz := HU.out.bel.size
          have HE := hid_in (show ((s i : Int) + (sh b s 64 i : Int)) % 4294967296 = ((shm b s i : Nat) : Int) by unfold shm; omega)
          generalize hA : s i = A at *
          generalize hB : sh b s 64 i = B at *
          clear hA hB
          go_wp2_with fail
          go_region_held3 (fun w' => w'.cell? ⟨gh, i, none⟩ = some (.int .u32 (A : Int)) ∧ w'.cell? ⟨gs, i, none⟩ = some (.int .u32 (B : Int))) (first | (go_keep; done) | (refine ⟨?_, ?_⟩ <;> first | assumption | (go_keep; done) | (go_simp; done))) (first | (refine wpG1 elemU (.tmp 142) (.tmp 152) rfl w8.heap.size _ i _ rfl (HU.out.own.alloc _) ⟨wr.heap.size, 0, none⟩ 1 1 [.int .u32 _] rfl rfl (cells_new _ _ _) (one_u32 _) (by omega) (by simp; omega) ?_; intro v3 w3' o3 g3 n3; have O3 := hid_in o3; have G3 := hid_in g3; have z3 := grown_below (B := w8.heap.size) g3 (by simp; omega) (fun g hg => (owns_own HU.out.own g hg).1); have y0 := (z3.cell (p := ⟨gh, i, none⟩) HS6.out.h.lt).trans (by first | (go_keep; done) | go_simp : _ = some (Value.int .u32 (A : Int))); have y1 := (z3.cell (p := ⟨gs, i, none⟩) HS6.out.s.lt).trans (by first | (go_keep; done) | go_simp : _ = some (Value.int .u32 (B : Int))); clear o3 g3 n3 z3))
          go_wp2_with fail
          refine ⟨⟨i + 1, HL.out, by simp, ?_⟩, by have := HL.out; simp [intOf]; omega⟩
          have hO := O3.out
          have hG := G3.out
          have hw := HE.out
          first
          | rw [show IntKind.u32.wrap ((A : Int) + (B : Int)) = ((shm b s i : Nat) : Int) by rw [IntKind.wrap_u32]; exact hw] at hO
          | rw [hw] at hO
          first
          | exact HU.out.nextD (b := shm b s i) hO hG rfl
          | exact HU.out.next (b := shm b s i) hO hG rfl
        · have q2 : ¬ (i : Int) < 8 := by omega
          obtain rfl : i = 8 := by omega
          have HX := hid_in HU.out.done
          have HB8 := hid_in HS6.out.bel
          go_wp2_with fail
          go_ret
          obtain ⟨v, hv, ho, hb⟩ := HX.out
          exact ⟨v, hv, owns_base ho HB8.out.size, below_later HB8.out hb⟩
end Go.Proofs.YtefmmopkikpnhaaGreatDoor

namespace Go.Proofs.YtefmmopkikpnhaaGreatDoor
open Go.RowKit Go.LatT Go.BlockM Go.PlainAid Go.OpnT Go.ApdG Go.BytM Go.AesM Go.RowQ
set_option linter.unusedVariables false
set_option linter.unusedSimpArgs false
theorem iniL : uC 8 ini = [.int .u32 1779033703, .int .u32 3144134277, .int .u32 1013904242, .int .u32 2773480762, .int .u32 1359893119, .int .u32 2600822924, .int .u32 528734635, .int .u32 1541459225] := by kernel_rfl
/-- What lies where while blocks are put in. -/
structure HS2 (w W : World) (v b : Value) (N k : Nat) (f : Nat → Nat) : Prop where
  own : OU W w.heap.size v 8 (stt f k)
  pb : PB w W b N f
theorem PB.br {w W : World} {g n cap : Nat} {f : Nat → Nat} (h : PB w W (.slice (some ⟨g, 0, none⟩) n cap) n f) (o : Nat) (ho : o + 64 ≤ n) : BR W g o 64 (fun j => f (o + j)) := by
  obtain ⟨g', cap', e, h1, h2, h3, h4, _⟩ := h.row
  have : g = g' := by simp at e; exact e.1
  subst this
  exact ⟨h3, fun i hi => h4 (o + i) (by omega)⟩
theorem HS2.lt {w W : World} {v b : Value} {N k : Nat} {f : Nat → Nat} (h : HS2 w W v b N k f) : w.heap.size ≤ W.heap.size := h.pb.bel.size
theorem wtx_len (s : Nat → Nat) (i : Nat) : (wtx s i).length = 4 * i := by simp [wtx]
theorem be4 (S : Nat) : u8s (be 4 S) = [.int .u8 ((S / 16777216 % 256 : Nat) : Int), .int .u8 ((S / 65536 % 256 : Nat) : Int), .int .u8 ((S / 256 % 256 : Nat) : Int), .int .u8 ((S % 256 : Nat) : Int)] := by
  simp [be, u8s]
  omega
set_option maxHeartbeats 8000000 in
set_option maxRecDepth 100000 in
theorem l7Sum_any (t : ByteArray) (w : World) (ht : t.size ≤ 3000000) :
    Calls Tryz.prog 62 #[.string t] w fun e w' => e = .returned (.string (sumT (bn t) t.size)) ∧ Below w.heap.size w w' := by
  have HI := hid_in (World.ownsRow_lit (base := w.heap.size) (e := 131) (size := 1) w (uC 8 ini).toArray 8 (Nat.le_refl _) (by unfold maxLen; omega) (by rw [List.size_toArray, uC_len]))
  rw [iniL] at HI
  go_enter Tryz.func62, Tryz.ntmps62
  go_wp2_with fail
  have HIO : Hid (OU (w.alloc (.cells #[.int .u32 1779033703, .int .u32 3144134277, .int .u32 1013904242, .int .u32 2773480762, .int .u32 1359893119, .int .u32 2600822924, .int .u32 528734635, .int .u32 1541459225] 131)) w.heap.size (.slice (some ⟨w.heap.size, 0, none⟩) 8 8) 8 ini) := by
    have h := HI.out
    unfold OU
    rw [iniL]
    exact h
  have HB1 := hid_in (below_box w (.cells #[.int .u32 1779033703, .int .u32 3144134277, .int .u32 1013904242, .int .u32 2773480762, .int .u32 1359893119, .int .u32 2600822924, .int .u32 528734635, .int .u32 1541459225] 131))
  clear HI
  generalize (w.alloc _) = w1 at *
  refine (l7Padded_any t w1 ht).mono ?_
  rintro e w2 ⟨bv, rfl, hp⟩
  have hO2 := owns_below HIO.out hp.bel
  have hp' : PB w w2 bv (padN t.size) (pad (bn t) t.size) := by
    obtain ⟨g, cap, e, h1, h2, h3⟩ := hp.row
    exact ⟨below_later HB1.out hp.bel, g, cap, e, h1, Nat.le_trans HB1.out.size h2, h3⟩
  have HSS := hid_in (show HS2 w w2 (.slice (some ⟨w.heap.size, 0, none⟩) 8 8) bv (padN t.size) 0 (pad (bn t) t.size) from ⟨hO2, hp'⟩)
  have HT := hid_in (show sumT (bn t) t.size = ⟨(wtx (stt (pad (bn t) t.size) (padN t.size / 64)) 8).toArray⟩ from rfl)
  have HF := hid_in (fun i => pad_lt (f := bn t) (n := t.size) (fun i _ => bn_lt t i) i)
  obtain ⟨K, hK⟩ : ∃ K, padN t.size = 64 * K := ⟨(t.size + 8) / 64 + 1, rfl⟩
  have hKl : K ≤ 50000 := by unfold padN at hK; omega
  have hKd : padN t.size / 64 = K := by omega
  rw [hKd] at HT
  rw [hK] at HSS
  generalize pad (bn t) t.size = f at *
  obtain ⟨gb, capb, hbv, hcap, _⟩ := HSS.out.pb.row
  subst hbv
  clear hp hO2 hp' HIO HB1 hKd hK
  go_wp2_with fail
  go_loopw [3, 5] (fun v u wr => ∃ k : Nat, k ≤ K ∧ u = .int .i64 ((64 * k : Nat) : Int) ∧ Hid (HS2 w wr v (.slice (some ⟨gb, 0, none⟩) (64 * K) capb) (64 * K) k f)) (fun _ u _ => 64 * K - (intOf u).toNat)
  case atStart => exact ⟨0, Nat.zero_le _, rfl, HSS⟩
  case round =>
    clear HSS
    obtain ⟨k, hk, rfl, HS⟩ := hrel
    obtain ⟨gh, ch, rfl, hch, hgh, RH, _⟩ := HS.out.own.row (by omega)
    by_cases hlt : k < K
    · have HL := hid_in hlt
      obtain ⟨o, ho⟩ : ∃ o, 64 * k = o := ⟨_, rfl⟩
      obtain ⟨L, hL⟩ : ∃ L, 64 * K = L := ⟨_, rfl⟩
      have HO := hid_in ho
      rw [ho]
      rw [hL] at hcap HS
      rw [hL]
      have hLb : L ≤ 3200000 := by omega
      have q1 : (o : Int) < (L : Int) := by omega
      have q2 : o + 64 ≤ L := by omega
      have q3 : (o : Int) + 64 ≤ (capb : Int) := by omega
      have HLL := hid_in hL
      clear ho hL
      obtain ⟨c, hc⟩ : ∃ c, capb - o = c := ⟨_, rfl⟩
      have w5 : IntKind.i64.wrap ((o : Int) + 64) = (o : Int) + 64 := by rw [IntKind.wrap_i64]; omega
      go_wp2_with fail
      have HC := hid_in hc
      refine (l7Block_any gh ch gb o c (stt f k) (fun j => f (o + j)) wr RH (HS.out.pb.br o q2) (stt_lt f k) (fun j _ => HF.out _) (by omega)).mono ?_
      rintro e w3 ⟨v3, rfl, ho3, hb3⟩
      have HN : Hid (HS2 w w3 v3 (.slice (some ⟨gb, 0, none⟩) L capb) L (k + 1) f) := by
        refine ⟨?_, HS.out.pb.later hb3⟩
        have h := owns_base ho3 HS.out.lt
        unfold OU at *
        rw [show stt f (k + 1) = shm (fun j => f (o + j)) (stt f k) by rw [stt, HO.out]]
        exact h
      clear ho3 hb3 RH HS
      go_wp2_with fail
      have h1 := HO.out; have h2 := HLL.out; have h3 := HL.out
      exact ⟨⟨k + 1, HL.out, by rw [← h1]; simp; omega, by first | exact HN | (rw [h2]; exact HN)⟩, by rw [← h1]; simp [intOf]; omega⟩
    · have q1 : ¬ (((64 * k : Nat) : Int) < ((64 * K : Nat) : Int)) := by omega
      obtain rfl : k = K := by omega
      obtain ⟨w8, hw8⟩ : ∃ x, x = wr := ⟨_, rfl⟩
      subst hw8
      have HRH := hid_in RH
      have HB8 := hid_in HS.out.pb.bel
      have HSL := hid_in (stt_lt f k)
      clear RH HS
      generalize stt f k = s at *
      go_wp2_with fail
      have HU0 : Hid (Below w8.heap.size w8 (w8.alloc (.cells #[] 5)) ∧ (w8.alloc (.cells #[] 5)).ownsRow w8.heap.size 5 1 (.slice (some ⟨w8.heap.size, 0, none⟩) 0 0) (4 * 0) (u8s (wtx s 0))) := ⟨below_box _ _, World.ownsRow_lit w8 #[] 0 (Nat.le_refl _) (Nat.zero_le _) rfl⟩
      go_loopw [6, 7] (fun v u wq => ∃ i : Nat, i ≤ 8 ∧ u = .int .i64 (i : Int) ∧ Hid (Below w8.heap.size w8 wq ∧ wq.ownsRow w8.heap.size 5 1 v (4 * i) (u8s (wtx s i)))) (fun _ u _ => 8 - (intOf u).toNat)
      case atStart => exact ⟨0, Nat.zero_le _, rfl, HU0⟩
      case round =>
        clear HU0
        obtain ⟨i, hi, rfl, HU⟩ := hrel
        by_cases hlt2 : i < 8
        · have HL := hid_in hlt2
          have q2 : (i : Int) < 8 := by omega
          have ch' := (HU.out.1.cell (p := ⟨gh, i, none⟩) HRH.out.lt).trans (HRH.out.cell i hlt2)
          have l1 := Nat.lt_of_lt_of_le HRH.out.lt HU.out.1.size
          have hzz := HU.out.1.size
          have hSi := HSL.out i hlt2
          have HW := hid_in (show u8s (wtx s (i + 1)) = u8s (wtx s i) ++ [.int .u8 ((s i / 16777216 % 256 : Nat) : Int), .int .u8 ((s i / 65536 % 256 : Nat) : Int), .int .u8 ((s i / 256 % 256 : Nat) : Int), .int .u8 ((s i % 256 : Nat) : Int)] by rw [wtx_succ, u8s_append, be4])
          generalize hA : s i = A at *
          clear hA
          have hO4 := hid_in (show ∀ a b c d : Int, ∀ u ∈ [Value.int .u8 a, Value.int .u8 b, Value.int .u8 c, Value.int .u8 d], u.oneCell' = true by intro a b c d u hu; simp at hu; rcases hu with rfl | rfl | rfl | rfl <;> rfl)
          go_wp2_with fail
          go_region_held3 (fun w' => w'.cell? ⟨gh, i, none⟩ = some (.int .u32 (A : Int))) (first | (go_keep; done) | assumption | (go_simp; done)) (first | (refine wpG1 elemB (.tmp 29) (.tmp 53) rfl w8.heap.size _ (4 * i) _ rfl (HU.out.2.alloc _) ⟨wr.heap.size, 0, none⟩ 4 4 [.int .u8 _, .int .u8 _, .int .u8 _, .int .u8 _] rfl rfl (cells_new _ _ _) (hO4.out _ _ _ _) (by omega) (by simp; omega) ?_; intro v3 w3' o3 g3 n3; have O3 := hid_in o3; have G3 := hid_in g3; have z3 := grown_below (B := w8.heap.size) g3 (by simp; omega) (fun g hg => (owns_own HU.out.2 g hg).1); have y0 := (z3.cell (p := ⟨gh, i, none⟩) HRH.out.lt).trans (by first | (go_keep; done) | go_simp : _ = some (Value.int .u32 (A : Int))); clear o3 g3 n3 z3))
          go_wp2_with fail
          refine ⟨⟨i + 1, HL.out, by simp, ?_⟩, by have := HL.out; simp [intOf]; omega⟩
          have hO := O3.out
          rw [show IntKind.u8.wrap ((A : Int) / 16777216) = ((A / 16777216 % 256 : Nat) : Int) by rw [IntKind.wrap_u8]; omega, show IntKind.u8.wrap ((A : Int) / 65536) = ((A / 65536 % 256 : Nat) : Int) by rw [IntKind.wrap_u8]; omega, show IntKind.u8.wrap ((A : Int) / 256) = ((A / 256 % 256 : Nat) : Int) by rw [IntKind.wrap_u8]; omega, show IntKind.u8.wrap (A : Int) = ((A % 256 : Nat) : Int) by rw [IntKind.wrap_u8]; omega, ← HW.out] at hO
          refine ⟨(HU.out.1.drew.alloc hzz _).grown G3.out (by simp; omega) (fun g hg => (owns_own HU.out.2 g hg).1), ?_⟩
          rw [show 4 * (i + 1) = 4 * i + 4 by omega]
          exact hO
        · have q2 : ¬ (i : Int) < 8 := by omega
          obtain rfl : i = 8 := by omega
          have hcv := owns_text HU.out.2 (by rw [wtx_len])
          have HX := hid_in (below_later HB8.out HU.out.1)
          go_wp2_with fail
          go_ret
          exact ⟨by rw [HT.out]; rfl, HX.out⟩
end Go.Proofs.YtefmmopkikpnhaaGreatDoor

namespace Go.Proofs.YtefmmopkikpnhaaGreatDoor
open Go.RowKit Go.LatT Go.BlockM Go.PlainAid Go.OpnT Go.ApdG Go.BytM Go.AesM Go.RowQ
set_option linter.unusedVariables false
set_option linter.unusedSimpArgs false
/-- The first bytes of a key of 64 bytes. -/
def kl (s : ByteArray) (c i : Nat) : List UInt8 := (List.range i).map fun j => UInt8.ofNat (kb s c j)
theorem kl_len (s : ByteArray) (c i : Nat) : (kl s c i).length = i := by simp [kl]
theorem kl_succ (s : ByteArray) (c i : Nat) (hc : c < 256) : u8s (kl s c (i + 1)) = u8s (kl s c i) ++ [.int .u8 (kb s c i : Int)] := by
  unfold kl
  rw [List.range_succ, List.map_append, u8s_append]
  congr 1
  have := kb_lt s c i hc
  simp [u8s]
  omega
theorem bn_append (a b : ByteArray) (i : Nat) (h : i < a.size + b.size) : bn (a ++ b) i = if i < a.size then bn a i else bn b (i - a.size) := by
  have hs : (a ++ b).size = a.size + b.size := ByteArray.size_append
  unfold bn bt
  rw [dif_pos (by omega)]
  by_cases e : i < a.size
  · rw [if_pos e, dif_pos e, ByteArray.getElem_append_left e]
  · rw [if_neg e, dif_pos (by omega), ByteArray.getElem_append_right (by omega)]
theorem sumT_congr {f g : Nat → Nat} {n : Nat} (h : ∀ i, i < n → f i = g i) : sumT f n = sumT g n := by
  have hp : ∀ i, pad f n i = pad g n i := by
    intro i
    unfold pad
    by_cases e : i < n
    · rw [if_pos e, if_pos e, h i e]
    · rw [if_neg e, if_neg e]
  unfold sumT
  rw [funext hp]
theorem sumT_cat (key t : ByteArray) (c : Nat) (hc : c < 256) : sumT (bn (kT key c ++ t)) (kT key c ++ t).size = sumT (cat2 (kb key c) t) (64 + t.size) := by
  have hs : (kT key c ++ t).size = 64 + t.size := by rw [ByteArray.size_append, kT_size]
  rw [hs]
  refine sumT_congr fun i hi => ?_
  rw [bn_append _ _ _ (by rw [kT_size]; exact hi), kT_size]
  unfold cat2
  by_cases e : i < 64
  · rw [if_pos e, if_pos e, bn_kT key c i hc e]
  · rw [if_neg e, if_neg e]
set_option maxHeartbeats 2000000 in
set_option maxRecDepth 100000 in
theorem l7Pad_any (s : ByteArray) (c : Nat) (w : World) (hs : s.size ≤ 64) (hc : c < 256) :
    Calls Tryz.prog 63 #[.string s, .int .u8 (c : Int)] w fun e w' => e = .returned (.string (kT s c)) ∧ Below w.heap.size w w' := by
  have hbt := get_bt s
  go_enter Tryz.func63, Tryz.ntmps63
  go_wp2_with fail
  have HU0 : Hid (Below w.heap.size w (w.alloc (.cells #[] 5)) ∧ (w.alloc (.cells #[] 5)).ownsRow w.heap.size 5 1 (.slice (some ⟨w.heap.size, 0, none⟩) 0 0) 0 (u8s (kl s c 0))) := ⟨below_box _ _, World.ownsRow_lit w #[] 0 (Nat.le_refl _) (Nat.zero_le _) rfl⟩
  go_loopw [5, 6] (fun v u wr => ∃ i : Nat, i ≤ 64 ∧ u = .int .i64 (i : Int) ∧ Hid (Below w.heap.size w wr ∧ wr.ownsRow w.heap.size 5 1 v i (u8s (kl s c i)))) (fun _ u _ => 64 - (intOf u).toNat)
  case atStart => exact ⟨0, Nat.zero_le _, rfl, HU0⟩
  case round =>
    clear HU0
    obtain ⟨i, hi, rfl, HU⟩ := hrel
    have hzz := HU.out.1.size
    by_cases hlt : i < 64
    · have HL := hid_in hlt
      have q2 : (i : Int) < 64 := by omega
      have HK := hid_in (kl_succ s c i hc)
      have h1c : ∀ (a : Int), ∀ u ∈ [Value.int .u8 a], u.oneCell' = true := by intro a u hu; simp at hu; subst hu; rfl
      by_cases his : i < s.size
      · have q3 : (i : Int) < (s.size : Int) := by omega
        have HX := hid_in (show bits .xor .u8 (bt s i) (c : Int) = ((kb s c i : Nat) : Int) by
          rw [← bn_int, xor8 _ c (bn_lt s i) hc]
          unfold kb; rw [if_pos his])
        go_wp2_with (at_builtin; refine wpG elemB rfl (.tmp 20) (.tmp 24) rfl w.heap.size _ i _ rfl (HU.out.2.alloc _) ⟨wr.heap.size, 0, none⟩ 1 1 [.int .u8 _] rfl rfl (cells_new _ _ _) (h1c _) (by omega) (by simp; omega) ?_; intro v3 w3 o3 g3 n3; have O3 := hid_in o3; have G3 := hid_in g3; clear o3 g3 n3)
        have hO := O3.out
        first
        | rw [HX.out, ← HK.out] at hO
        | skip
        exact ⟨⟨i + 1, HL.out, by simp, (HU.out.1.alloc HU.out.1.size _).grown G3.out (by simp; omega) (fun g hg => (owns_own HU.out.2 g hg).1), hO⟩, by have := HL.out; simp [intOf]; omega⟩
      · have q3 : ¬ (i : Int) < (s.size : Int) := by omega
        have HX := hid_in (show bits .xor .u8 0 (c : Int) = ((kb s c i : Nat) : Int) by
          have := xor8 0 c (by decide) hc
          unfold kb; rw [if_neg his]; exact this)
        go_wp2_with (at_builtin; refine wpG elemB rfl (.tmp 20) (.tmp 24) rfl w.heap.size _ i _ rfl (HU.out.2.alloc _) ⟨wr.heap.size, 0, none⟩ 1 1 [.int .u8 _] rfl rfl (cells_new _ _ _) (h1c _) (by omega) (by simp; omega) ?_; intro v3 w3 o3 g3 n3; have O3 := hid_in o3; have G3 := hid_in g3; clear o3 g3 n3)
        have hO := O3.out
        first
        | rw [HX.out, ← HK.out] at hO
        | skip
        exact ⟨⟨i + 1, HL.out, by simp, (HU.out.1.alloc HU.out.1.size _).grown G3.out (by simp; omega) (fun g hg => (owns_own HU.out.2 g hg).1), hO⟩, by have := HL.out; simp [intOf]; omega⟩
    · have q2 : ¬ (i : Int) < 64 := by omega
      obtain rfl : i = 64 := by omega
      have hcv := owns_text HU.out.2 (kl_len s c 64).symm
      have HX := hid_in HU.out.1
      go_wp2_with fail
      go_ret
      exact ⟨rfl, HX.out⟩
set_option maxHeartbeats 2000000 in
set_option maxRecDepth 100000 in
theorem tagS_any (s t : ByteArray) (w : World) (hs : s.size ≤ 1048576) (ht : t.size ≤ 1048576) :
    Calls Tryz.prog 23 #[.string s, .string t] w fun e w' => e = .returned (.string (if 64 < s.size then ⟨#[]⟩ else tgT s t)) ∧ Below w.heap.size w w' := by
  by_cases hlt : 64 < s.size
  · have q1 : (64 : Int) < (s.size : Int) := by omega
    rw [if_pos hlt]
    go_enter Tryz.func23, Tryz.ntmps23
    go_wp2_with fail
    go_ret
    exact ⟨rfl, Below.refl _ _⟩
  · have q1 : ¬ (64 : Int) < (s.size : Int) := by omega
    have hle : s.size ≤ 64 := by omega
    have HLE := hid_in hle
    rw [if_neg hlt]
    have hz1 := kT_size s 92
    have hz2 := kT_size s 54
    have C1 := hid_in (sumT_cat s t 54 (by decide))
    have C2 := hid_in (sumT_cat s (inT s t) 92 (by decide))
    have HI := hid_in (show inT s t = sumT (cat2 (kb s 54) t) (64 + t.size) from rfl)
    have HT := hid_in (show tgT s t = (sumT (cat2 (kb s 92) (inT s t)) (64 + (inT s t).size)).extract 0 16 by unfold tgT; rw [inT_size])
    have hz3 := inT_size s t
    have Z1 := hid_in (show (kT s 54 ++ t).size = 64 + t.size by rw [ByteArray.size_append, kT_size])
    have Z2 := hid_in (show (kT s 92 ++ inT s t).size = 96 by rw [ByteArray.size_append, kT_size, inT_size])
    have P1 := hid_in (fun W => l7Pad_any s 92 W hle (by decide))
    have P2 := hid_in (fun W => l7Pad_any s 54 W hle (by decide))
    generalize kT s 92 = K1 at *
    generalize kT s 54 = K2 at *
    go_enter Tryz.func23, Tryz.ntmps23
    go_wp2_with fail
    refine (P1.out w).mono ?_
    rintro e w1 ⟨rfl, hb1⟩
    go_wp2_with fail
    refine (P2.out w1).mono ?_
    rintro e w2 ⟨rfl, hb2⟩
    have B2 := hid_in (below_later hb1 hb2)
    clear hb1 hb2
    go_wp2_with fail
    refine (l7Sum_any (K2 ++ t) w2 (by rw [Z1.out]; omega)).mono ?_
    rintro e w3 ⟨rfl, hb3⟩
    have B3 := hid_in (below_later B2.out hb3)
    clear hb3 B2
    rw [C1.out, ← HI.out]
    go_wp2_with fail
    refine (l7Sum_any (K1 ++ inT s t) w3 (by rw [Z2.out]; decide)).mono ?_
    rintro e w4 ⟨rfl, hb4⟩
    have B4 := hid_in (below_later B3.out hb4)
    clear hb4 B3
    rw [C2.out]
    have hsz := sumT_size (cat2 (kb s 92) (inT s t)) (64 + (inT s t).size)
    generalize sumT (cat2 (kb s 92) (inT s t)) (64 + (inT s t).size) = R at *
    go_wp2_with fail
    go_ret
    exact ⟨by rw [HT.out]; rfl, B4.out⟩
end Go.Proofs.YtefmmopkikpnhaaGreatDoor

