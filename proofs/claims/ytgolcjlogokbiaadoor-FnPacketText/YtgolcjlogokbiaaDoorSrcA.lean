/- A text that is read from its beginning on, as contracts. The conditions stand at each theorem. -/
import Derived.Test.YtgolcjlogokbiaaDoorUnfA
import Derived.Test.YtgolcjlogokbiaaDoorDrwA
import Derived.Laws.Rows
import Derived.Deep.Heap
namespace Go.Proofs.YtgolcjlogokbiaaDoor
open Go.RowKit Go.LatT Go.BlockM Go.PlainAid Go.OpnT Go.RegE Go.ApdG Go.BytM
set_option linter.unusedVariables false
set_option linter.unusedSimpArgs false
/-- What is told of a reading: nothing, or that it failed. -/
def ErrV (b : Bool) (v : Value) : Prop := if b then ∃ x : ByteArray, v = .iface 84 (.agg #[.string x]) else v = .nilIface
/-- A source lies in a block. -/
structure Sat (w : World) (g : Nat) (r : ByteArray) (v : Value) : Prop where
  lt : g < w.heap.size
  c0 : w.cell? ⟨g, 0, none⟩ = some (.string r)
  c1 : w.cell? ⟨g, 1, none⟩ = some v
  f : ∀ o, w.frozen? ⟨g, o, none⟩ = false
theorem Sat.later {w w' : World} {g : Nat} {r : ByteArray} {v : Value} (h : Sat w g r v) (hb : Below w.heap.size w w') : Sat w' g r v :=
  ⟨Nat.lt_of_lt_of_le h.lt hb.size, ((bcell hb).1 _ _ h.lt).trans h.c0, ((bcell hb).1 _ _ h.lt).trans h.c1, fun o => ((bcell hb).2 _ o h.lt).trans (h.f o)⟩
theorem Sat.mv {w w' : World} {g R : Nat} {r : ByteArray} {v : Value} (h : Sat w g r v) (m : Mv R w w') (hg : g ≠ R) : Sat w' g r v :=
  ⟨Nat.lt_of_lt_of_le h.lt m.size, (m.cell _ _ h.lt hg).trans h.c0, (m.cell _ _ h.lt hg).trans h.c1, fun o => (m.frozen _ o h.lt hg).trans (h.f o)⟩
theorem Sat.new (w : World) (r : ByteArray) (v : Value) (ty : TypeId) : Sat (w.alloc (.cells #[.string r, v] ty)) w.heap.size r v := ⟨by simp, by go_simp, by go_simp, fun o => by go_simp⟩
theorem Sat.set0 {w : World} {g : Nat} {r : ByteArray} {v : Value} (r' : ByteArray) (h : Sat w g r v) : Sat (w.setCell ⟨g, 0, none⟩ (.string r')) g r' v := by
  obtain ⟨l0, p0, p1, pf⟩ := h
  exact ⟨by simpa using l0, by go_simp, by go_simp, fun o => by go_simp⟩
theorem Sat.set1 {w : World} {g : Nat} {r : ByteArray} {v : Value} (v' : Value) (h : Sat w g r v) : Sat (w.setCell ⟨g, 1, none⟩ v') g r v' := by
  obtain ⟨l0, p0, p1, pf⟩ := h
  exact ⟨by simpa using l0, by go_simp, by go_simp, fun o => by go_simp⟩
theorem Mv.setg (R o : Nat) (w : World) (v : Value) : Mv R w (w.setCell ⟨R, o, none⟩ v) :=
  ⟨rfl, rfl, rfl, by simp, fun k hk hne => heap_setCell_other w ⟨R, o, none⟩ k v (fun e => hne e)⟩
set_option maxHeartbeats 1000000 in
set_option maxRecDepth 100000 in
theorem refuse_any (g : Nat) (r x : ByteArray) (b : Bool) (v : Value) (w : World) (h : Sat w g r v) (hv : ErrV b v) :
    Calls Tryd.prog 58 #[.pointer (some ⟨g, 0, none⟩), .string x] w fun e w' => e = .returned (.tuple #[]) ∧ (∃ v', Sat w' g r v' ∧ ErrV true v') ∧ Mv g w w' := by
  have H := hid_in h
  obtain ⟨l0, p0, p1, pf⟩ := h
  cases b
  · have hv' : v = .nilIface := hv
    subst hv'
    clear hv
    go_enter Tryd.func58, Tryd.ntmps58
    go_wp2_with fail
    go_end0
    exact ⟨rfl, ⟨_, H.out.set1 _, ⟨x, rfl⟩⟩, Mv.setg _ _ _ _⟩
  · have hv' : ∃ x : ByteArray, v = .iface 84 (.agg #[.string x]) := hv
    obtain ⟨y, rfl⟩ := hv'
    have V := hid_in hv
    clear hv
    go_enter Tryd.func58, Tryd.ntmps58
    go_wp2_with fail
    go_end0
    exact ⟨rfl, ⟨_, H.out, V.out⟩, Mv.refl _ _⟩
set_option maxHeartbeats 1000000 in
set_option maxRecDepth 100000 in
theorem piece_ok (g n : Nat) (r : ByteArray) (v : Value) (w : World) (h : Sat w g r v) (hr : r.size ≤ 1048576) (hn : n ≤ r.size) :
    Calls Tryd.prog 57 #[.pointer (some ⟨g, 0, none⟩), .int .i64 (n : Int)] w fun e w' => e = .returned (.string (r.extract 0 n)) ∧ Sat w' g (r.extract n r.size) v ∧ Mv g w w' := by
  have H := hid_in h
  obtain ⟨l0, p0, p1, pf⟩ := h
  obtain ⟨x, hx⟩ : ∃ x, r.extract 0 n = x := ⟨_, rfl⟩
  have hxz : x.size ≤ 1048576 := by rw [← hx, ByteArray.size_extract]; omega
  have HX := hid_in hx; have HZ := hid_in hxz
  go_enter Tryd.func57, Tryd.ntmps57
  go_wp2_with fail
  refine (sclone_any x _ HZ.out).mono ?_
  rintro e w1 ⟨rfl, hb1⟩
  have H1 := hid_in (H.out.later hb1)
  clear l0 p0 p1 pf
  obtain ⟨l0, p0, p1, pf⟩ := H1.out
  go_wp2_with fail
  go_ret
  exact ⟨by rw [HX.out]; rfl, H1.out.set0 _, (Mv.of_below hb1).trans (Mv.setg _ _ _ _)⟩
set_option maxHeartbeats 1000000 in
set_option maxRecDepth 100000 in
theorem piece_no (g n : Nat) (r : ByteArray) (b : Bool) (v : Value) (w : World) (h : Sat w g r v) (hv : ErrV b v) (hr : r.size ≤ 1048576) (hn : r.size < n) (hn2 : n ≤ 1048576) :
    Calls Tryd.prog 57 #[.pointer (some ⟨g, 0, none⟩), .int .i64 (n : Int)] w fun e w' => e = .returned (.string ⟨#[]⟩) ∧ (∃ v', Sat w' g r v' ∧ ErrV true v') ∧ Mv g w w' := by
  have H := hid_in h
  have V := hid_in hv
  obtain ⟨l0, p0, p1, pf⟩ := h
  clear hv
  go_enter Tryd.func57, Tryd.ntmps57
  go_wp2_with fail
  refine (refuse_any g r _ b v _ H.out V.out).mono ?_
  rintro e w1 ⟨rfl, h1, m1⟩
  go_wp2_with fail
  go_ret
  exact ⟨rfl, h1, m1⟩
/-- A piece was read, or it failed. -/
def Pc (n : Nat) (r r' : ByteArray) (b b' : Bool) (x : ByteArray) : Prop := (n ≤ r.size ∧ b' = b ∧ r' = r.extract n r.size ∧ x = r.extract 0 n) ∨ (r.size < n ∧ b' = true ∧ r' = r ∧ x = ⟨#[]⟩)
theorem Pc.size {n : Nat} {r r' x : ByteArray} {b b' : Bool} (h : Pc n r r' b b' x) : r'.size ≤ r.size ∧ x.size ≤ r.size ∧ x.size ≤ n := by
  rcases h with ⟨h, _, rfl, rfl⟩ | ⟨h, _, rfl, rfl⟩
  · simp only [ByteArray.size_extract]; omega
  · exact ⟨Nat.le_refl _, Nat.zero_le _, Nat.zero_le _⟩
theorem piece_any (g n : Nat) (r : ByteArray) (b : Bool) (v : Value) (w : World) (h : Sat w g r v) (hv : ErrV b v) (hr : r.size ≤ 1048576) (hn : n ≤ 1048576) :
    Calls Tryd.prog 57 #[.pointer (some ⟨g, 0, none⟩), .int .i64 (n : Int)] w fun e w' => ∃ x r' b' v', e = .returned (.string x) ∧ Pc n r r' b b' x ∧ Sat w' g r' v' ∧ ErrV b' v' ∧ Mv g w w' := by
  by_cases hk : n ≤ r.size
  · refine (piece_ok g n r v w h hr hk).mono ?_
    rintro e w1 ⟨rfl, h1, m1⟩
    exact ⟨_, _, b, v, rfl, .inl ⟨hk, rfl, rfl, rfl⟩, h1, hv, m1⟩
  · refine (piece_no g n r b v w h hv hr (by omega) hn).mono ?_
    rintro e w1 ⟨rfl, ⟨v', h1, h2⟩, m1⟩
    exact ⟨_, _, true, v', rfl, .inr ⟨by omega, rfl, rfl, rfl⟩, h1, h2, m1⟩
theorem or_i64 {a q : Int} (h0 : 0 ≤ a) (h1 : a < 4294967296) (h2 : 0 ≤ q) (h3 : q ≤ 255) : bits .or .i64 (a * 256) q = a * 256 + q := by
  obtain ⟨A, rfl⟩ := Int.eq_ofNat_of_zero_le h0
  obtain ⟨B, rfl⟩ := Int.eq_ofNat_of_zero_le h2
  have e : (A : Int) * 256 = ((256 * A : Nat) : Int) := by omega
  have hor : 256 * A ||| B = 256 * A + B := (Nat.two_pow_add_eq_or_of_lt (i := 8) (b := B) (by omega) A).symm
  rw [e]
  show IntKind.i64.wrap ((BitVec.ofInt 64 ((256 * A : Nat) : Int) ||| BitVec.ofInt 64 (B : Int)).toNat : Int) = _
  rw [BitVec.toNat_or, ofInt_u64 (256 * A) (by omega), ofInt_u64 B (by omega), hor]
  rw [wrap_i64_small _ (by omega) (by omega)]
  omega
/-- A text as a new row of bytes. -/
theorem conv_str (x : ByteArray) (w : World) : ∃ cap W, (convert 9 22 (.string x)).run Tryd.prog w = .ok (.slice (some ⟨w.heap.size, 0, none⟩) x.size cap) W ∧ Below w.heap.size w W ∧ W.heap.size = w.heap.size + 1 ∧ ∀ j, j < x.size → W.cell? ⟨w.heap.size, j, none⟩ = some (.int .u8 (bt x j)) := by
  refine ⟨_, _, run_bytes_of_string w 9 22 5 x Tryd.underlying9 Tryd.underlying22 Tryd.underlying5, ?_, ?_, ?_⟩
  · exact (Below.refl _ _).drew.alloc (Nat.le_refl _) _
  · simp
  · intro j hj
    have hb : (w.drew.alloc (.cells (bytesRow x (grownCap w x.size 0 5)) 5 ((bytesRow x (grownCap w x.size 0 5)).size, (bytesRow x (grownCap w x.size 0 5)).size + 1))).heap[w.heap.size]? = some (.cells (bytesRow x (grownCap w x.size 0 5)) 5 ((bytesRow x (grownCap w x.size 0 5)).size, (bytesRow x (grownCap w x.size 0 5)).size + 1)) := Go.Deep.blk_alloc_new w.drew _
    rw [cell_of_row _ _ _ _ _ _ hb]
    unfold bytesRow bt
    have hj' : j < x.data.size := hj
    rw [dif_pos hj, Array.getElem?_append_left (by rw [Array.size_map]; exact hj'), Array.getElem?_map, Array.getElem?_eq_getElem hj']
    rfl
theorem num_take (x : ByteArray) (k : Nat) (h : k < x.size) : ((num ((bl x).take (k + 1)) : Nat) : Int) = (num ((bl x).take k) : Nat) * 256 + bt x k := by
  rw [List.take_succ_eq_append_getElem (by rw [bl_len]; exact h), num_snoc]
  unfold bt
  rw [dif_pos h]
  rw [Int.natCast_add, Int.natCast_mul]
  rfl
/-- What reading a number answers. -/
def NumP (g n : Nat) (r : ByteArray) (b : Bool) (w : World) (e : Ending) (w' : World) : Prop := ∃ x r' b' v', e = .returned (.int .i64 ((num (bl x) : Nat) : Int)) ∧ Pc n r r' b b' x ∧ Sat w' g r' v' ∧ ErrV b' v' ∧ Mv g w w'
set_option maxHeartbeats 2000000 in
set_option maxRecDepth 100000 in
theorem number_any (g n : Nat) (r : ByteArray) (b : Bool) (v : Value) (w : World) (h : Sat w g r v) (hv : ErrV b v) (hr : r.size ≤ 1048576) (hn : n ≤ 4) :
    Calls Tryd.prog 56 #[.pointer (some ⟨g, 0, none⟩), .int .i64 (n : Int)] w fun e w' => NumP g n r b w e w' := by
  have P := hid_in (fun w h => piece_any g n r b v w h hv hr (by omega))
  have H := hid_in h
  clear h hv
  go_enter Tryd.func56, Tryd.ntmps56
  go_wp2_with fail
  refine (P.out _ H.out).mono ?_
  rintro e w1 ⟨x, r', b', v', rfl, hp, h1, hv1, m1⟩
  have HP := hid_in hp; have H1 := hid_in h1; have V1 := hid_in hv1; have M1 := hid_in m1
  have hxz := hp.size.2.2
  clear hp h1 hv1 m1
  obtain ⟨cap, W, hcv, hbW, hzW, hcW⟩ := conv_str x w1
  have HBW := hid_in hbW; have HZW := hid_in hzW
  clear hbW hzW
  go_wp2_with fail
  go_loop [5, 13] (fun a i => ∃ k : Nat, k ≤ x.size ∧ i = .int .i64 (k : Int) ∧ a = .int .i64 ((num ((bl x).take k) : Nat) : Int)) (fun _ i => x.size - (intOf i).toNat)
  case atStart => exact ⟨0, Nat.zero_le _, rfl, rfl⟩
  case round =>
    obtain ⟨k, hk, rfl, rfl⟩ := hrel
    have hlen : ((bl x).take k).length = k := by rw [List.length_take, bl_len]; omega
    have hlt4 := num_lt k _ hlen
    have hle4 : 256 ^ k ≤ 256 ^ 4 := Nat.pow_le_pow_right (by omega) (by omega)
    by_cases hlt : k < x.size
    · have g0 := bt_nonneg x k
      have g1 := bt_le x k
      have HN := hid_in (num_take x k hlt)
      have hce := hcW k hlt
      have HL := hid_in hlt
      generalize num ((bl x).take k) = a at *
      have ha : (a : Int) < 4294967296 := by omega
      clear hlen hlt4 hle4 hcW
      have hor := or_i64 (a := (a : Int)) (q := bt x k) (by omega) ha g0 g1
      go_wp2_with fail
      refine ⟨⟨k + 1, HL.out, by simp, ?_⟩, by have := HL.out; simp [intOf]; omega⟩
      rw [HN.out]
    · have hk' : k = x.size := by omega
      have HK := hid_in hk'
      go_wp2_with fail
      go_ret
      refine ⟨x, r', b', v', ?_, HP.out, H1.out.later HBW.out, V1.out, M1.out.trans (Mv.of_below HBW.out)⟩
      rw [List.take_of_length_le (by rw [bl_len]; exact Nat.le_refl _)]
      rfl
end Go.Proofs.YtgolcjlogokbiaaDoor
