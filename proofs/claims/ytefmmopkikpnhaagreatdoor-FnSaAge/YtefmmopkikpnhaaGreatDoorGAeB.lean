/- What is proved: the contracts of AesN, AesP, AesQ, AesR, AesS, AesT, AesU, AesV, AesW, AesX, AesY, one behind the other. The conditions stand at each theorem. -/
import Derived.Test.YtefmmopkikpnhaaGreatDoorGAeA
import Derived.Great.BuildSlice
import Derived.Deep.RegionLaw
namespace Go.Proofs.YtefmmopkikpnhaaGreatDoor
open Go.RowKit Go.LatT Go.BlockM Go.PlainAid Go.OpnT Go.ApdG Go.BytM Go.AesM
set_option linter.unusedVariables false
set_option linter.unusedSimpArgs false
theorem mixK_congr {f g h : Nat → Nat} (e : ∀ i, i < 16 → f i = g i) (i : Nat) (hi : i < 16) : ∀ k, k ≤ 4 → mixK f h i k = mixK g h i k
  | 0, _ => rfl
  | k + 1, hk => by rw [mixK, mixK, mixK_congr e i hi k (by omega), e _ (by omega)]
theorem mix_congr {f g h : Nat → Nat} (e : ∀ i, i < 16 → f i = g i) : ∀ i, i < 16 → mix f h i = mix g h i := fun i hi => mixK_congr e i hi 4 (by omega)
theorem shf_congr {c : Nat} {f g : Nat → Nat} (e : ∀ i, i < 16 → f i = g i) : ∀ i, i < 16 → shf c f i = shf c g i := fun i _ => e _ (Nat.mod_lt _ (by omega))
theorem stp_congr {K : Nat → Nat → Nat} {r : Nat} {s t : Nat → Nat} (e : ∀ i, i < 16 → s i = t i) : ∀ i, i < 16 → stp K r s i = stp K r t i := by
  intro i hi
  have e2 : ∀ i, i < 16 → shf 1 (fun j => there (s j)) i = shf 1 (fun j => there (t j)) i := shf_congr fun j hj => by show there (s j) = there (t j); rw [e j hj]
  unfold stp
  split
  · rw [mix_congr e2 i hi]
  · rw [e2 i hi]
section
variable {K : Nat → Nat → Nat} {f : Nat → Nat}
theorem enc_congr {g : Nat → Nat} (e : ∀ i, i < 16 → f i = g i) : ∀ r i, i < 16 → enc K f r i = enc K g r i
  | 0, i, hi => by show f i ^^^ K 0 i = g i ^^^ K 0 i; rw [e i hi]
  | r + 1, i, hi => stp_congr (enc_congr e r) i hi
end
end Go.Proofs.YtefmmopkikpnhaaGreatDoor

namespace Go.Proofs.YtefmmopkikpnhaaGreatDoor
open Go.RowKit Go.LatT Go.BlockM Go.PlainAid Go.OpnT Go.ApdG Go.BytM Go.AesM
set_option linter.unusedVariables false
set_option linter.unusedSimpArgs false
/-- n numbers as cells. -/
def nC (n : Nat) (f : Nat → Nat) : List Value := (List.range n).map fun i => .int .i64 (f i : Int)
theorem nC_len (n : Nat) (f : Nat → Nat) : (nC n f).length = n := by simp [nC]
theorem nC_get (n : Nat) (f : Nat → Nat) (i : Nat) (h : i < n) : (nC n f)[i]? = some (.int .i64 (f i : Int)) := by simp [nC, h]
theorem nC_succ (n : Nat) (f : Nat → Nat) : nC (n + 1) f = nC n f ++ [.int .i64 (f n : Int)] := by simp [nC, List.range_succ]
theorem nC_congr {n : Nat} {f g : Nat → Nat} (h : ∀ i, i < n → f i = g i) : nC n f = nC n g := by
  unfold nC
  apply List.map_congr_left
  intro i hi
  rw [h i (List.mem_range.1 hi)]
theorem nC_set (n : Nat) (f : Nat → Nat) (k b : Nat) : (nC n f).set k (.int .i64 (b : Int)) = nC n (fun i => if i = k then b else f i) := by
  apply List.ext_getElem
  · simp [nC]
  · intro i h1 h2
    rw [List.getElem_set]
    by_cases h : k = i
    · subst h; simp [nC]
    · have : ¬ i = k := fun e => h e.symm
      simp [nC, h, this]
theorem elemI : ElemT Tryz.prog 37 3 1 (.int .i64 0) := ElemT.mk' (b := 8) Tryz.underlying37 (by kernel_rfl) rfl (by decide) (by decide)
/-- Numbers that lie in a row. -/
structure NR (W : World) (g n : Nat) (f : Nat → Nat) : Prop where
  lt : g < W.heap.size
  cell : ∀ i, i < n → W.cell? ⟨g, i, none⟩ = some (.int .i64 (f i : Int))
theorem NR.later {W W' : World} {g n : Nat} {f : Nat → Nat} (h : NR W g n f) (hb : Below W.heap.size W W') : NR W' g n f :=
  ⟨Nat.lt_of_lt_of_le h.lt hb.size, fun i hi => ((bcell hb).1 _ _ h.lt).trans (h.cell i hi)⟩
theorem NR.at {W W' : World} {B g n : Nat} {f : Nat → Nat} (h : NR W g n f) (hb : Below B W W') (hg : g < B) : NR W' g n f :=
  ⟨Nat.lt_of_lt_of_le h.lt hb.size, fun i hi => (hb.cell (p := ⟨g, i, none⟩) hg).trans (h.cell i hi)⟩
theorem NR.congr {W : World} {g n : Nat} {f h : Nat → Nat} (r : NR W g n f) (e : ∀ i, i < n → f i = h i) : NR W g n h := ⟨r.lt, fun i hi => by rw [← e i hi]; exact r.cell i hi⟩
/-- A list that the call owns. -/
def OL (W : World) (B : Nat) (v : Value) (n : Nat) (f : Nat → Nat) : Prop := W.ownsRow B 3 1 v n (nC n f)
theorem OL.row {W : World} {B n : Nat} {v : Value} {f : Nat → Nat} (h : OL W B v n f) (hn : 0 < n) : ∃ g c, v = .slice (some ⟨g, 0, none⟩) n c ∧ n ≤ c ∧ B ≤ g ∧ NR W g n f ∧ ∀ i, W.frozen? ⟨g, i, none⟩ = false := by
  have hcells := fun g hg => World.ownsRow.cells h (g := g) hg
  have hown := h
  obtain ⟨h1, h2⟩ := h
  rcases h2 with ⟨rfl, h0⟩ | ⟨g, cap, cur, rfl, e2, e3, e4, e5, e6, e7⟩
  · omega
  · refine ⟨g, cap, rfl, e4, e2, ⟨(Array.getElem?_eq_some_iff.1 e3).1, fun i hi => ?_⟩, fun i => ?_⟩
    · have := hcells g rfl i _ (nC_get n f i hi)
      unfold Addr.add at this
      by_cases hz : i = 0
      · rw [if_pos hz] at this; rw [hz] at this ⊢; exact this
      · rw [if_neg hz, Nat.zero_add] at this; exact this
    · exact World.ownsRow.frozenAt hown i
theorem OL.mono {W : World} {B B' n : Nat} {v : Value} {f : Nat → Nat} (h : OL W B v n f) (hB : B' ≤ B) : OL W B' v n f := by
  obtain ⟨h1, h2⟩ := h
  refine ⟨h1, ?_⟩
  rcases h2 with h2 | ⟨g, cap, cur, e1, e2, e3⟩
  · exact .inl h2
  · exact .inr ⟨g, cap, cur, e1, Nat.le_trans hB e2, e3⟩
/-- What making a list answers. -/
def MkP (w : World) (n : Nat) (f : Nat → Nat) (e : Ending) (w' : World) : Prop := ∃ v, e = .returned v ∧ OL w' w.heap.size v n f ∧ Below w.heap.size w w'
/-- What lies where while a list is made. -/
structure LS (w W : World) (o : Value) (n : Nat) (f : Nat → Nat) : Prop where
  bel : Below w.heap.size w W
  own : OL W w.heap.size o n f
theorem LS.new (w : World) (f : Nat → Nat) (t : TypeId) : LS w (w.alloc (.cells #[] 3)) (.slice (some ⟨w.heap.size, 0, none⟩) 0 0) 0 f := ⟨below_box _ _, World.ownsRow_lit w #[] 0 (Nat.le_refl _) (Nat.zero_le _) rfl⟩
theorem LS.next {w W W' : World} {o o' : Value} {n b : Nat} {f : Nat → Nat} {x : Obj} (h : LS w W o n f) (O : W'.ownsRow w.heap.size 3 1 o' (n + 1) (nC n f ++ [.int .i64 (b : Int)])) (G : (W.alloc x).grownBy W' o.ownBlock) (e : b = f n) : LS w W' o' (n + 1) f :=
  ⟨(h.bel.alloc h.bel.size _).grown G (by have := h.bel.size; simp; omega) (fun g hg => (owns_own h.own g hg).1), by subst e; unfold OL; rw [nC_succ]; exact O⟩
theorem LS.nextD {w W W' : World} {o o' : Value} {n b : Nat} {f : Nat → Nat} {x : Obj} (h : LS w W o n f) (O : W'.ownsRow w.heap.size 3 1 o' (n + 1) (nC n f ++ [.int .i64 (b : Int)])) (G : (W.drew.alloc x).grownBy W' o.ownBlock) (e : b = f n) : LS w W' o' (n + 1) f :=
  LS.next (W := W.drew) ⟨h.bel.drew, h.own⟩ O G e
theorem LS.done {w W : World} {o : Value} {n : Nat} {f : Nat → Nat} (h : LS w W o n f) : MkP w n f (.returned o) W := ⟨o, rfl, h.own, h.bel⟩
theorem one_int (a : Int) : ∀ u ∈ [Value.int .i64 a], u.oneCell' = true := by intro u hu; simp at hu; subst hu; rfl
set_option maxHeartbeats 2000000 in
set_option maxRecDepth 100000 in
theorem l6Bytes_any (s : ByteArray) (w : World) (hs : s.size ≤ 4096) :
    Calls Tryz.prog 133 #[.string s] w fun e w' => MkP w s.size (bn s) e w' := by
  have hb := get_bt s
  have L0 := hid_in (LS.new w (bn s) 3)
  go_enter Tryz.func133, Tryz.ntmps133
  go_wp2_with fail
  go_loopw [3, 4] (fun o v wr => ∃ k : Nat, k ≤ s.size ∧ v = .int .i64 (k : Int) ∧ Hid (LS w wr o k (bn s))) (fun _ v _ => s.size - (intOf v).toNat)
  case atStart => exact ⟨0, Nat.zero_le _, rfl, L0⟩
  case round =>
    obtain ⟨k, hk, rfl, HL⟩ := hrel
    have hz := HL.out.bel.size
    by_cases hlt : k < s.size
    · have HK := hid_in hlt
      have q4 : (k : Int) < s.size := by omega
      have g0 := bt_nonneg s k
      have g1 := bt_le s k
      go_wp2_with (at_builtin; refine wpG elemI rfl (.tmp 12) (.tmp 17) rfl w.heap.size _ k _ rfl (HL.out.own.alloc _) ⟨wr.heap.size, 0, none⟩ 1 1 [.int .i64 _] rfl rfl (cells_new _ _ _) (one_int _) (by omega) (by simp; omega) ?_; intro v3 w3 o3 g3 n3; have O3 := hid_in o3; have G3 := hid_in g3; clear o3 g3 n3)
      rw [← bn_int] at O3 G3
      refine ⟨⟨k + 1, HK.out, by simp, ?_⟩, by have := HK.out; simp [intOf]; omega⟩
      exact HL.out.next O3.out G3.out rfl
    · have hk' : k = s.size := by omega
      have HK := hid_in hk'
      have hd : ¬ (k : Int) < (s.size : Int) := by omega
      go_wp2_with fail
      go_ret
      rw [← HK.out]
      exact HL.out.done
end Go.Proofs.YtefmmopkikpnhaaGreatDoor

namespace Go.Proofs.YtefmmopkikpnhaaGreatDoor
open Go.RowKit Go.LatT Go.BlockM Go.PlainAid Go.OpnT Go.ApdG Go.BytM Go.AesM
set_option linter.unusedVariables false
set_option linter.unusedSimpArgs false
def SUBZ : List Int := SUBL.map fun (x : Nat) => (x : Int)
theorem subZ : SUBZ.map (Value.int .i64) = nC 256 there := by kernel_rfl
set_option maxHeartbeats 2000000 in
set_option maxRecDepth 100000 in
theorem l6Sub_any (w : World) :
    Calls Tryz.prog 130 #[] w fun e w' => MkP w 256 there e w' := by
  go_enter Tryz.func130, Tryz.ntmps130
  go_wp2_with (first | (refine wpList_buildFlat rfl 37 3 256 _ rfl .i64 SUBZ (by kernel_rfl) (by kernel_rfl) (by kernel_rfl) (by kernel_rfl) (by decide) (by decide) (by kernel_rfl) ?_))
  go_ret
  refine ⟨_, rfl, ?_, below_box _ _⟩
  have h := World.ownsRow_lit (base := w.heap.size) (e := 3) (size := 1) w (nC 256 there).toArray 256 (Nat.le_refl _) (by unfold maxLen; omega) (by rw [List.size_toArray, nC_len])
  rw [← subZ] at h
  rw [subZ] at h ⊢
  exact h
end Go.Proofs.YtefmmopkikpnhaaGreatDoor

namespace Go.Proofs.YtefmmopkikpnhaaGreatDoor
open Go.RowKit Go.LatT Go.BlockM Go.PlainAid Go.OpnT Go.ApdG Go.BytM Go.AesM
set_option linter.unusedVariables false
set_option linter.unusedSimpArgs false
set_option maxHeartbeats 2000000 in
set_option maxRecDepth 100000 in
theorem l6Add_any (gs cs gk ck r : Nat) (s K : Nat → Nat) (w : World) (hS : NR w gs 16 s) (hK : NR w gk 176 K) (hr : r ≤ 10) (hs : By 16 s) (hk : By 176 K) :
    Calls Tryz.prog 134 #[.slice (some ⟨gs, 0, none⟩) 16 cs, .slice (some ⟨gk, 0, none⟩) 176 ck, .int .i64 (r : Int)] w fun e w' => MkP w 16 (fun i => s i ^^^ K (16 * r + i)) e w' := by
  have HS := hid_in hS; have HK := hid_in hK
  clear hS hK
  have L0 := hid_in (LS.new w (fun i => s i ^^^ K (16 * r + i)) 3)
  go_enter Tryz.func134, Tryz.ntmps134
  go_wp2_with fail
  go_loopw [7, 8] (fun o v wr => ∃ k : Nat, k ≤ 16 ∧ v = .int .i64 (k : Int) ∧ Hid (LS w wr o k (fun i => s i ^^^ K (16 * r + i)))) (fun _ v _ => 16 - (intOf v).toNat)
  case atStart => exact ⟨0, Nat.zero_le _, rfl, L0⟩
  case round =>
    obtain ⟨k, hk', rfl, HL⟩ := hrel
    have hz := HL.out.bel.size
    by_cases hlt : k < 16
    · have HKK := hid_in hlt
      have q4 : (k : Int) < 16 := by omega
      obtain ⟨x, hx⟩ : ∃ x, 16 * r + k = x := ⟨_, rfl⟩
      have HX := hid_in hx
      have hx176 : x < 176 := by omega
      have c1 := (HS.out.at HL.out.bel HS.out.lt).cell k hlt
      have c2 := (HK.out.at HL.out.bel HK.out.lt).cell x hx176
      have n1 : gs < w.heap.size := HS.out.lt
      have n2 : gk < w.heap.size := HK.out.lt
      have hxo := xor64 (s k) (K x) (Nat.lt_trans (hs k hlt) (by omega)) (Nat.lt_trans (hk x hx176) (by omega))
      have e1 : IntKind.i64.wrap (16 * (r : Int)) = 16 * (r : Int) := by rw [IntKind.wrap_i64]; omega
      have e2 : IntKind.i64.wrap (16 * (r : Int) + (k : Int)) = (x : Int) := by rw [IntKind.wrap_i64]; omega
      have q5 : (x : Int) < 176 := by omega
      have m1 : gs < wr.heap.size := by omega
      have m2 : gk < wr.heap.size := by omega
      clear hx
      generalize hA : s k = A at *
      generalize hB : K x = B at *
      have HA := hid_in hA; have HB := hid_in hB
      clear hA hB
      go_wp2_with fail
      go_region_held3 (fun w' => w'.cell? ⟨gs, k, none⟩ = some (.int .i64 (A : Int)) ∧ w'.cell? ⟨gk, x, none⟩ = some (.int .i64 (B : Int))) (first | go_keep | (refine ⟨?_, ?_⟩ <;> go_simp)) (first | (refine wpG1 elemI (.tmp 14) (.tmp 27) rfl w.heap.size _ k _ rfl (HL.out.own.alloc _) ⟨wr.heap.size, 0, none⟩ 1 1 [.int .i64 _] rfl rfl (cells_new _ _ _) (one_int _) (by omega) (by simp; omega) ?_; intro v3 w3 o3 g3 n3; have O3 := hid_in o3; have G3 := hid_in g3; have z3 := grown_below (B := w.heap.size) g3 (by simp; omega) (fun g hg => (owns_own HL.out.own g hg).1); have x1 := (z3.cell (p := ⟨gs, k, none⟩) n1).trans (by go_simp : _ = some (Value.int .i64 (A : Int))); have x2 := (z3.cell (p := ⟨gk, x, none⟩) n2).trans (by go_simp : _ = some (Value.int .i64 (B : Int))); clear o3 g3 n3 z3))
      go_wp2_with fail
      refine ⟨⟨k + 1, HKK.out, by simp, ?_⟩, by have := HKK.out; simp [intOf]; omega⟩
      exact HL.out.nextD O3.out G3.out (by show A ^^^ B = s k ^^^ K (16 * r + k); rw [HX.out, HA.out, HB.out])
    · have q4 : ¬ (k : Int) < 16 := by omega
      obtain rfl : k = 16 := by omega
      go_wp2_with fail
      go_ret
      exact HL.out.done
end Go.Proofs.YtefmmopkikpnhaaGreatDoor

namespace Go.Proofs.YtefmmopkikpnhaaGreatDoor
open Go.RowKit Go.LatT Go.BlockM Go.PlainAid Go.OpnT Go.ApdG Go.BytM Go.AesM
set_option linter.unusedVariables false
set_option linter.unusedSimpArgs false
set_option maxHeartbeats 2000000 in
set_option maxRecDepth 100000 in
theorem l6Shift_any (gs cs x : Nat) (z : Int) (s : Nat → Nat) (w : World) (hS : NR w gs 16 s) (hz : z = 1 ∧ x = 1 ∨ z = -1 ∧ x = 3) :
    Calls Tryz.prog 136 #[.slice (some ⟨gs, 0, none⟩) 16 cs, .int .i64 z] w fun e w' => MkP w 16 (shf x s) e w' := by
  have HS := hid_in hS
  clear hS
  have L0 := hid_in (LS.new w (shf x s) 3)
  go_enter Tryz.func136, Tryz.ntmps136
  go_wp2_with fail
  go_loopw [5, 6] (fun o v wr => ∃ k : Nat, k ≤ 16 ∧ v = .int .i64 (k : Int) ∧ Hid (LS w wr o k (shf x s))) (fun _ v _ => 16 - (intOf v).toNat)
  case atStart => exact ⟨0, Nat.zero_le _, rfl, L0⟩
  case round =>
    obtain ⟨k, hk', rfl, HL⟩ := hrel
    have hz' := HL.out.bel.size
    by_cases hlt : k < 16
    · have HKK := hid_in hlt
      have q4 : (k : Int) < 16 := by omega
      obtain ⟨y, hy⟩ : ∃ y, (k + k % 4 * x * 4) % 16 = y := ⟨_, rfl⟩
      have HY := hid_in hy
      have hy16 : y < 16 := by omega
      have c1 := (HS.out.at HL.out.bel HS.out.lt).cell y hy16
      have m1 : gs < wr.heap.size := by have := HS.out.lt; omega
      have e1 : (k : Int) % 4 + 4 * (((k : Int) / 4 + z * ((k : Int) % 4)) % 4) = (y : Int) := by
        rcases hz with ⟨rfl, rfl⟩ | ⟨rfl, rfl⟩ <;> omega
      have e3 : IntKind.i64.wrap (z * ((k : Int) % 4)) = z * ((k : Int) % 4) := by
        rw [IntKind.wrap_i64]; rcases hz with ⟨rfl, rfl⟩ | ⟨rfl, rfl⟩ <;> omega
      have e4 : IntKind.i64.wrap ((k : Int) / 4 + z * ((k : Int) % 4)) = (k : Int) / 4 + z * ((k : Int) % 4) := by
        rw [IntKind.wrap_i64]; rcases hz with ⟨rfl, rfl⟩ | ⟨rfl, rfl⟩ <;> omega
      have e5 : IntKind.i64.wrap ((k : Int) / 4 + z * ((k : Int) % 4) + 4) = (k : Int) / 4 + z * ((k : Int) % 4) + 4 := by
        rw [IntKind.wrap_i64]; rcases hz with ⟨rfl, rfl⟩ | ⟨rfl, rfl⟩ <;> omega
      have e6 : ((k : Int) / 4 + z * ((k : Int) % 4) + 4).tmod 4 = ((k : Int) / 4 + z * ((k : Int) % 4) + 4) % 4 := by
        rw [Int.tmod_eq_emod_of_nonneg]; rcases hz with ⟨rfl, rfl⟩ | ⟨rfl, rfl⟩ <;> omega
      have e7 : (k : Int).tmod 4 = (k : Int) % 4 := by rw [Int.tmod_eq_emod_of_nonneg (by omega)]
      have q5 : (y : Int) < 16 := by omega
      clear hy
      go_wp2_with (at_builtin; refine wpG elemI rfl (.tmp 12) (.tmp 29) rfl w.heap.size _ k _ rfl (HL.out.own.alloc _) ⟨wr.heap.size, 0, none⟩ 1 1 [.int .i64 _] rfl rfl (cells_new _ _ _) (one_int _) (by omega) (by simp; omega) ?_; intro v3 w3 o3 g3 n3; have O3 := hid_in o3; have G3 := hid_in g3; clear o3 g3 n3)
      refine ⟨⟨k + 1, HKK.out, by simp, ?_⟩, by have := HKK.out; simp [intOf]; omega⟩
      exact HL.out.next O3.out G3.out (by show s y = shf x s k; unfold shf; rw [HY.out])
    · have q4 : ¬ (k : Int) < 16 := by omega
      obtain rfl : k = 16 := by omega
      go_wp2_with fail
      go_ret
      exact HL.out.done
end Go.Proofs.YtefmmopkikpnhaaGreatDoor

namespace Go.Proofs.YtefmmopkikpnhaaGreatDoor
open Go.RowKit Go.LatT Go.BlockM Go.PlainAid Go.OpnT Go.ApdG Go.BytM Go.AesM
set_option linter.unusedVariables false
set_option linter.unusedSimpArgs false
set_option maxHeartbeats 2000000 in
set_option maxRecDepth 100000 in
theorem l6Mix_any (gs cs gb cb : Nat) (s b : Nat → Nat) (w : World) (hS : NR w gs 16 s) (hB : NR w gb 4 b) (hs : By 16 s) (hb : By 4 b) :
    Calls Tryz.prog 135 #[.slice (some ⟨gs, 0, none⟩) 16 cs, .slice (some ⟨gb, 0, none⟩) 4 cb] w fun e w' => MkP w 16 (mix s b) e w' := by
  have HS := hid_in hS; have HB := hid_in hB
  clear hS hB
  have L0 := hid_in (LS.new w (mix s b) 3)
  go_enter Tryz.func135, Tryz.ntmps135
  go_wp2_with fail
  go_loopw [5, 6] (fun o v wr => ∃ k : Nat, k ≤ 16 ∧ v = .int .i64 (k : Int) ∧ Hid (LS w wr o k (mix s b))) (fun _ v _ => 16 - (intOf v).toNat)
  case atStart => exact ⟨0, Nat.zero_le _, rfl, L0⟩
  case round =>
    obtain ⟨k, hk', rfl, HL⟩ := hrel
    have hz := HL.out.bel.size
    by_cases hlt : k < 16
    · have HK := hid_in hlt
      have q4 : (k : Int) < 16 := by omega
      go_wp2_with fail
      go_loopw [7, 8] (fun o v wq => ∃ j : Nat, j ≤ 4 ∧ v = .int .i64 (j : Int) ∧ o = .int .i64 ((mixK s b k j : Nat) : Int) ∧ Hid (LS w wq u5 k (mix s b))) (fun _ v _ => 4 - (intOf v).toNat)
      case atStart => exact ⟨0, Nat.zero_le _, rfl, rfl, HL⟩
      case round =>
        obtain ⟨j, hj, rfl, rfl, HV⟩ := hrel
        have hzq := HV.out.bel.size
        by_cases hjl : j < 4
        · have HJ := hid_in hjl
          obtain ⟨x, hx⟩ : ∃ x, k - k % 4 + j = x := ⟨_, rfl⟩
          obtain ⟨y, hy⟩ : ∃ y, (j + 4 - k % 4) % 4 = y := ⟨_, rfl⟩
          have hx16 : x < 16 := by omega
          have hy4 : y < 4 := by omega
          have c1 := (HS.out.at HV.out.bel HS.out.lt).cell x hx16
          have c2 := (HB.out.at HV.out.bel HB.out.lt).cell y hy4
          have m1 : gs < wr.heap.size := by have := HS.out.lt; omega
          have m2 : gb < wr.heap.size := by have := HB.out.lt; omega
          have TM := hid_in (fun w => l6Mul_any (s x) (b y) w (hs x hx16) (hb y hy4))
          have hxo := xor64 (mixK s b k j) (mul (s x) (b y)) (Nat.lt_trans (mixK_lt (g := b) hs k HK.out j (by omega)) (by omega)) (Nat.lt_trans (mul_lt (hs x hx16)) (by omega))
          have HM := hid_in (show mixK s b k (j + 1) = mixK s b k j ^^^ mul (s x) (b y) by rw [mixK, hx, hy])
          have q2 : (j : Int) < 4 := by omega
          have e1 : (k : Int) / 4 * 4 + (j : Int) = (x : Int) := by omega
          have e2 : ((j : Int) - (k : Int) % 4) % 4 = (y : Int) := by omega
          have e3 : IntKind.i64.wrap ((k : Int) / 4 * 4 + (j : Int)) = (x : Int) := by rw [IntKind.wrap_i64]; omega
          have e4 : IntKind.i64.wrap ((j : Int) - (k : Int) % 4) = (j : Int) - (k : Int) % 4 := by rw [IntKind.wrap_i64]; omega
          have e5 : IntKind.i64.wrap ((j : Int) - (k : Int) % 4 + 4) = (j : Int) - (k : Int) % 4 + 4 := by rw [IntKind.wrap_i64]; omega
          have e6 : ((j : Int) - (k : Int) % 4 + 4).tmod 4 = (y : Int) := by rw [Int.tmod_eq_emod_of_nonneg (by omega)]; omega
          have e7 : IntKind.i64.wrap (y : Int) = (y : Int) := by rw [IntKind.wrap_i64]; omega
          have e8 : IntKind.i64.wrap (x : Int) = (x : Int) := by rw [IntKind.wrap_i64]; omega
          have e9 : IntKind.i64.wrap ((k : Int) / 4 * 4) = (k : Int) / 4 * 4 := by rw [IntKind.wrap_i64]; omega
          have q5 : (x : Int) < 16 := by omega
          have q6 : (y : Int) < 4 := by omega
          clear hx hy
          generalize mixK s b k j = m0 at *
          generalize mul (s x) (b y) = m1' at *
          go_wp2_with fail
          refine wp_region_lat (Below.refl _ _) (by kernel_rfl) (by kernel_rfl) ?_
          intro hne hcl
          repeat (go_big_quiet_step (first | (go_at_call 175; exact lat_same (TM.out _))))
          refine wpQuiet_nil ?_
          intro w1 hb1
          obtain ⟨hc1, hf1⟩ := bcell hb1
          clear hne hcl
          have V1 := hid_in (show LS w w1 u5 k (mix s b) from ⟨below_later HV.out.bel hb1, owns_below HV.out.own hb1⟩)
          clear c1 c2 hc1 hf1
          go_wp2_with fail
          refine ⟨⟨j + 1, HJ.out, by simp, ?_, V1⟩, by have := HJ.out; simp [intOf]; omega⟩
          rw [HM.out]
        · have q2 : ¬ (j : Int) < 4 := by omega
          obtain rfl : j = 4 := by omega
          have HM := hid_in (show mixK s b k 4 = mix s b k from rfl)
          generalize mixK s b k 4 = m0 at *
          go_wp2_with (at_builtin; refine wpG elemI rfl (.tmp 38) (.tmp 40) rfl w.heap.size _ k _ rfl (HV.out.own.alloc _) ⟨wr.heap.size, 0, none⟩ 1 1 [.int .i64 _] rfl rfl (cells_new _ _ _) (one_int _) (by omega) (by simp; omega) ?_; intro v3 w3 o3 g3 n3; have O3 := hid_in o3; have G3 := hid_in g3; clear o3 g3 n3)
          refine ⟨⟨k + 1, HK.out, by simp, ?_⟩, by have := HK.out; simp [intOf]; omega⟩
          exact HV.out.next O3.out G3.out HM.out
    · have q4 : ¬ (k : Int) < 16 := by omega
      obtain rfl : k = 16 := by omega
      go_wp2_with fail
      go_ret
      exact HL.out.done
end Go.Proofs.YtefmmopkikpnhaaGreatDoor

namespace Go.Proofs.YtefmmopkikpnhaaGreatDoor
open Go.RowKit Go.LatT Go.BlockM Go.PlainAid Go.OpnT Go.ApdG Go.BytM Go.AesM
set_option linter.unusedVariables false
set_option linter.unusedSimpArgs false
/-- A text of n bytes. -/
def tl (n : Nat) (f : Nat → Nat) : List UInt8 := (List.range n).map fun i => UInt8.ofNat (f i)
def txt (n : Nat) (f : Nat → Nat) : ByteArray := ⟨(tl n f).toArray⟩
theorem tl_len (n : Nat) (f : Nat → Nat) : (tl n f).length = n := by simp [tl]
theorem txt_size (n : Nat) (f : Nat → Nat) : (txt n f).size = n := by show (tl n f).toArray.size = n; simp [tl]
theorem tl_congr {n : Nat} {f g : Nat → Nat} (h : ∀ i, i < n → f i = g i) : tl n f = tl n g := by
  unfold tl
  apply List.map_congr_left
  intro i hi
  rw [h i (List.mem_range.1 hi)]
theorem txt_congr {n : Nat} {f g : Nat → Nat} (h : ∀ i, i < n → f i = g i) : txt n f = txt n g := by unfold txt; rw [tl_congr h]
theorem txt_get (n : Nat) (f : Nat → Nat) (i : Nat) (h : i < n) : bn (txt n f) i = f i % 256 := by
  have h1 : bt (txt n f) i = ((UInt8.ofNat (f i)).toNat : Int) := by
    unfold bt
    rw [dif_pos (by rw [txt_size]; exact h)]
    have h2 : (txt n f)[i]'(by rw [txt_size]; exact h) = UInt8.ofNat (f i) := by
      show (tl n f).toArray[i]'_ = _
      simp [tl]
    rw [h2]
  unfold bn
  rw [h1]
  simp
  omega
/-- n bytes as cells. -/
def rL (n : Nat) (f : Nat → Nat) : List Value := (List.range n).map fun i => .int .u8 (f i : Int)
theorem rL_succ (n : Nat) (f : Nat → Nat) : rL (n + 1) f = rL n f ++ [.int .u8 (f n : Int)] := by simp [rL, List.range_succ]
theorem rL_get (n : Nat) (f : Nat → Nat) (i : Nat) (h : i < n) : (rL n f)[i]? = some (.int .u8 (f i : Int)) := by simp [rL, h]
theorem elemB : ElemT Tryz.prog 25 5 1 (.int .u8 0) := ElemT.mk' (b := 1) Tryz.underlying25 (by kernel_rfl) rfl (by decide) (by decide)
theorem owns_txt {w : World} {base n : Nat} {v : Value} {f : Nat → Nat} (h : w.ownsRow base 5 1 v n (rL n f)) (hf : By n f) : (convert 25 9 v).run Tryz.prog w = .ok (.string (txt n f)) w := by
  have hcells := fun g hg => World.ownsRow.cells h (g := g) hg
  obtain ⟨h1, h2⟩ := h
  rcases h2 with ⟨rfl, h0⟩ | ⟨g, cap, cur, rfl, e2, e3, e4, e5, e6, e7⟩
  · subst h0
    exact run_convert_bytes_nil (P := Tryz.prog) (w := w) _ 5 Tryz.underlying25 Tryz.underlying5 0 0 9 Tryz.underlying9
  · have := run_convert_bytes_back (P := Tryz.prog) w 25 9 5 ⟨g, 0, none⟩ cap (tl n f) Tryz.underlying25 Tryz.underlying5 Tryz.underlying9 fun j hj => by
      rw [tl_len] at hj
      refine (hcells g rfl j _ (rL_get n f j hj)).trans ?_
      have := hf j hj
      simp [tl, hj]
      omega
    rw [tl_len] at this
    exact this
/-- What lies where while a text is made. -/
structure TL (w W : World) (o : Value) (n : Nat) (f : Nat → Nat) : Prop where
  bel : Below w.heap.size w W
  own : W.ownsRow w.heap.size 5 1 o n (rL n f)
theorem TL.new (w : World) (f : Nat → Nat) : TL w (w.alloc (.cells #[] 5)) (.slice (some ⟨w.heap.size, 0, none⟩) 0 0) 0 f := ⟨below_box _ _, World.ownsRow_lit w #[] 0 (Nat.le_refl _) (Nat.zero_le _) rfl⟩
theorem TL.next {w W W' : World} {o o' : Value} {n b : Nat} {f : Nat → Nat} {x : Obj} (h : TL w W o n f) (O : W'.ownsRow w.heap.size 5 1 o' (n + 1) (rL n f ++ [.int .u8 (b : Int)])) (G : (W.alloc x).grownBy W' o.ownBlock) (e : b = f n) : TL w W' o' (n + 1) f :=
  ⟨(h.bel.alloc h.bel.size _).grown G (by have := h.bel.size; simp; omega) (fun g hg => (owns_own h.own g hg).1), by subst e; rw [rL_succ]; exact O⟩
theorem TL.nextD {w W W' : World} {o o' : Value} {n b : Nat} {f : Nat → Nat} {x : Obj} (h : TL w W o n f) (O : W'.ownsRow w.heap.size 5 1 o' (n + 1) (rL n f ++ [.int .u8 (b : Int)])) (G : (W.drew.alloc x).grownBy W' o.ownBlock) (e : b = f n) : TL w W' o' (n + 1) f :=
  TL.next (W := W.drew) ⟨h.bel.drew, h.own⟩ O G e
theorem one_u8 (a : Int) : ∀ u ∈ [Value.int .u8 a], u.oneCell' = true := by intro u hu; simp at hu; subst hu; rfl
set_option maxHeartbeats 2000000 in
set_option maxRecDepth 100000 in
theorem l6Text_any (gs cs n : Nat) (s : Nat → Nat) (w : World) (hS : NR w gs n s) (hn : n ≤ 4096) (hs : By n s) :
    Calls Tryz.prog 137 #[.slice (some ⟨gs, 0, none⟩) n cs] w fun e w' => e = .returned (.string (txt n s)) ∧ Below w.heap.size w w' := by
  have HS := hid_in hS
  clear hS
  have L0 := hid_in (TL.new w s)
  go_enter Tryz.func137, Tryz.ntmps137
  go_wp2_with fail
  go_loopw [3, 4] (fun o v wr => ∃ k : Nat, k ≤ n ∧ v = .int .i64 (k : Int) ∧ Hid (TL w wr o k s)) (fun _ v _ => n - (intOf v).toNat)
  case atStart => exact ⟨0, Nat.zero_le _, rfl, L0⟩
  case round =>
    obtain ⟨k, hk, rfl, HL⟩ := hrel
    have hz := HL.out.bel.size
    by_cases hlt : k < n
    · have HK := hid_in hlt
      have q4 : (k : Int) < n := by omega
      have c1 := (HS.out.at HL.out.bel HS.out.lt).cell k hlt
      have m1 : gs < wr.heap.size := by have := HS.out.lt; omega
      have sk := hs k hlt
      go_wp2_with (at_builtin; refine wpG elemB rfl (.tmp 12) (.tmp 18) rfl w.heap.size _ k _ rfl (HL.out.own.alloc _) ⟨wr.heap.size, 0, none⟩ 1 1 [.int .u8 _] rfl rfl (cells_new _ _ _) (one_u8 _) (by omega) (by simp; omega) ?_; intro v3 w3 o3 g3 n3; have O3 := hid_in o3; have G3 := hid_in g3; clear o3 g3 n3)
      refine ⟨⟨k + 1, HK.out, by simp, ?_⟩, by have := HK.out; simp [intOf]; omega⟩
      exact HL.out.next O3.out G3.out rfl
    · have q4 : ¬ (k : Int) < n := by omega
      have hk' : k = n := by omega
      have HK := hid_in hk'
      have hcv := owns_txt HL.out.own (by rw [hk']; exact hs)
      go_wp2_with fail
      go_ret
      rw [← HK.out]
      exact ⟨rfl, HL.out.bel⟩
set_option maxHeartbeats 2000000 in
set_option maxRecDepth 100000 in
theorem l6Xor_any (s t : ByteArray) (w : World) (hs : s.size ≤ 4096) (ht : s.size ≤ t.size) :
    Calls Tryz.prog 84 #[.string s, .string t] w fun e w' => e = .returned (.string (txt s.size fun i => bn s i ^^^ bn t i)) ∧ Below w.heap.size w w' := by
  have hb := get_bt s
  have hb2 := get_bt t
  have L0 := hid_in (TL.new w (fun i => bn s i ^^^ bn t i))
  go_enter Tryz.func84, Tryz.ntmps84
  go_wp2_with fail
  go_loopw [5, 6] (fun o v wr => ∃ k : Nat, k ≤ s.size ∧ v = .int .i64 (k : Int) ∧ Hid (TL w wr o k (fun i => bn s i ^^^ bn t i))) (fun _ v _ => s.size - (intOf v).toNat)
  case atStart => exact ⟨0, Nat.zero_le _, rfl, L0⟩
  case round =>
    obtain ⟨k, hk, rfl, HL⟩ := hrel
    have hz := HL.out.bel.size
    by_cases hlt : k < s.size
    · have HK := hid_in hlt
      have q4 : (k : Int) < s.size := by omega
      have q5 : (k : Int) < t.size := by omega
      have hxo := xor8 (bn s k) (bn t k) (bn_lt s k) (bn_lt t k)
      rw [bn_int, bn_int] at hxo
      go_wp2_with fail
      go_region_held3 (fun w' => True) (go_keep) (first | (refine wpG1 elemB (.tmp 14) (.tmp 22) rfl w.heap.size _ k _ rfl (HL.out.own.alloc _) ⟨wr.heap.size, 0, none⟩ 1 1 [.int .u8 _] rfl rfl (cells_new _ _ _) (one_u8 _) (by omega) (by simp; omega) ?_; intro v3 w3 o3 g3 n3; have O3 := hid_in o3; have G3 := hid_in g3; clear o3 g3 n3))
      all_goals
        go_wp2_with fail
        refine ⟨⟨k + 1, HK.out, by simp, ?_⟩, by have := HK.out; simp [intOf]; omega⟩
        exact HL.out.nextD O3.out G3.out rfl
    · have q4 : ¬ (k : Int) < s.size := by omega
      have hk' : k = s.size := by omega
      have HK := hid_in hk'
      have hcv := owns_txt HL.out.own (fun i _ => xor_lt (bn_lt s i) (bn_lt t i))
      go_wp2_with fail
      go_ret
      rw [← HK.out]
      exact ⟨rfl, HL.out.bel⟩
end Go.Proofs.YtefmmopkikpnhaaGreatDoor

namespace Go.Proofs.YtefmmopkikpnhaaGreatDoor
open Go.RowKit Go.LatT Go.BlockM Go.PlainAid Go.OpnT Go.ApdG Go.BytM Go.AesM
set_option linter.unusedVariables false
set_option linter.unusedSimpArgs false
theorem OL.congr {W : World} {B n : Nat} {v : Value} {f h : Nat → Nat} (o : OL W B v n f) (e : ∀ i, i < n → f i = h i) : OL W B v n h := by
  unfold OL; rw [← nC_congr e]; exact o
theorem LS.congr {w W : World} {v : Value} {n : Nat} {f h : Nat → Nat} (l : LS w W v n f) (e : ∀ i, i < n → f i = h i) : LS w W v n h := ⟨l.bel, l.own.congr e⟩
theorem LS.stored {w W : World} {g c n : Nat} {f : Nat → Nat} (l : LS w W (.slice (some ⟨g, 0, none⟩) n c) n f) (hg : w.heap.size ≤ g) (k b : Nat) :
    LS w (W.setCell ⟨g, k, none⟩ (.int .i64 (b : Int))) (.slice (some ⟨g, 0, none⟩) n c) n (fun i => if i = k then b else f i) := by
  refine ⟨l.bel.setCell hg _, ?_⟩
  have := (World.ownsRow.stored l.own k (.int .i64 (b : Int))).1
  rw [nC_set] at this
  exact this
/-- A list made later is as one made since. -/
theorem LS.of_mk {w W W' : World} {v : Value} {n : Nat} {f : Nat → Nat} (hb : Below w.heap.size w W) (O : OL W' W.heap.size v n f) (h : Below W.heap.size W W') : LS w W' v n f := ⟨below_later hb h, O.mono hb.size⟩
/-- Keys of rounds as one list. -/
def flatK (K : Nat → Nat → Nat) (x : Nat) : Nat := K (x / 16) (x % 16)
theorem flatK_at (K : Nat → Nat → Nat) (r i : Nat) (hi : i < 16) : flatK K (16 * r + i) = K r i := by
  unfold flatK
  rw [show (16 * r + i) / 16 = r by omega, show (16 * r + i) % 16 = i by omega]
theorem flatK_by {K : Nat → Nat → Nat} (hK : ∀ i, i < 11 → By 16 (K i)) : By 176 (flatK K) := fun x hx => hK _ (by omega) _ (Nat.mod_lt _ (by omega))
set_option maxHeartbeats 4000000 in
set_option maxRecDepth 100000 in
theorem l6Put_any (gk ck : Nat) (K : Nat → Nat → Nat) (s : ByteArray) (w : World) (hR : NR w gk 176 (flatK K)) (hs : s.size = 16) (hK : ∀ i, i < 11 → By 16 (K i)) :
    Calls Tryz.prog 160 #[.slice (some ⟨gk, 0, none⟩) 176 ck, .string s] w fun e w' => e = .returned (.string (txt 16 (enc K (bn s) 10))) ∧ Below w.heap.size w w' := by
  have HR := hid_in hR
  have hf : By 16 (bn s) := fun i _ => bn_lt s i
  clear hR
  go_enter Tryz.func160, Tryz.ntmps160
  go_wp2_with fail
  refine (l6Sub_any _).mono ?_
  rintro e w1 ⟨vt, rfl, Ot, hb1⟩
  obtain ⟨gt, ct, rfl, hct, hgt, RT, _⟩ := Ot.row (by omega)
  have RK := hid_in (HR.out.later hb1)
  have HT := hid_in RT
  have HB1 := hid_in hb1
  clear Ot hb1 RT
  go_wp2_with fail
  refine (l6Bytes_any s _ (by omega)).mono ?_
  rintro e w2 ⟨v2, rfl, O2, hb2⟩
  rw [hs] at O2
  obtain ⟨g2, c2, rfl, hc2, hg2, R2, _⟩ := O2.row (by omega)
  have HR2 := hid_in R2; have HB2 := hid_in hb2
  have RK2 := hid_in (RK.out.later hb2)
  clear O2 R2 hb2
  go_wp2_with fail
  refine (l6Add_any g2 c2 gk ck 0 (bn s) (flatK K) _ HR2.out RK2.out (by omega) hf (flatK_by hK)).mono ?_
  rintro e w3 ⟨v3, rfl, O3, hb3⟩
  have L3 := hid_in ((LS.of_mk HB2.out O3 hb3).congr (h := enc K (bn s) 0) (fun i hi => by show bn s i ^^^ flatK K (16 * 0 + i) = bn s i ^^^ K 0 i; rw [flatK_at K 0 i hi]))
  clear O3 hb3 RK2 HR2 HB2
  go_wp2_with fail
  go_loopw [6, 7] (fun o v wr => ∃ r : Nat, r ≤ 10 ∧ v = .int .i64 ((r + 1 : Nat) : Int) ∧ Hid (LS w1 wr o 16 (enc K (bn s) r))) (fun _ v _ => 11 - (intOf v).toNat)
  case atStart => exact ⟨0, by omega, rfl, L3⟩
  case round =>
    obtain ⟨r, hr, rfl, HW⟩ := hrel
    by_cases hlt : r < 10
    · obtain ⟨q, hq⟩ : ∃ q, r + 1 = q := ⟨_, rfl⟩
      have hsb := enc_by hK hf r (by omega)
      have hq10 : q ≤ 10 := by omega
      have QE := hid_in (show enc K (bn s) q = stp K q (enc K (bn s) r) by rw [← hq]; rfl)
      have HQ := hid_in hq
      rw [hq]
      clear hq
      generalize enc K (bn s) r = x at *
      have q1 : (q : Int) ≤ 10 := by omega
      obtain ⟨g, c, hu, hc, hg, R, hfz⟩ := HW.out.own.row (by omega)
      have HU := hid_in hu
      rw [hu] at HW
      rw [hu]
      clear hu R hfz
      go_wp2_with fail
      go_loopw [8] (fun v wr => ∃ k : Nat, k ≤ 16 ∧ v = .int .i64 (k : Int) ∧ Hid (LS w1 wr (.slice (some ⟨g, 0, none⟩) 16 c) 16 (fun j => if j < k then there (x j) else x j))) (fun v _ => 16 - (intOf v).toNat)
      case atStart => exact ⟨0, by omega, rfl, HW.out.congr (fun i _ => by simp)⟩
      case round =>
        obtain ⟨k, hk, rfl, HV⟩ := hrel
        have hz := HV.out.bel.size
        by_cases hkl : k < 16
        · have HKL := hid_in hkl
          have q2 : (k : Int) < 16 := by omega
          obtain ⟨g', c', hu', _, _, R, hfz⟩ := HV.out.own.row (by omega)
          obtain ⟨rfl, rfl⟩ : g = g' ∧ c = c' := by simpa using hu'
          have d1 := R.cell k hkl
          rw [if_neg (Nat.lt_irrefl k)] at d1
          have hxk := hsb k hkl
          have d2 := (HT.out.at HV.out.bel HT.out.lt).cell (x k) hxk
          have d3 := hfz k
          have m1 := R.lt
          have m2 : gt < wr.heap.size := by have := HT.out.lt; omega
          have q3 : ((x k : Nat) : Int) < 256 := by omega
          clear R hfz hu'
          go_wp2_with fail
          refine ⟨⟨k + 1, HKL.out, by simp, ?_⟩, by have := HKL.out; simp [intOf]; omega⟩
          refine (HV.out.stored hg k (there (x k))).congr (fun i hi => ?_)
          show (if i = k then there (x k) else if i < k then there (x i) else x i) = if i < k + 1 then there (x i) else x i
          by_cases e : i = k
          · subst e; rw [if_pos rfl, if_pos (by omega)]
          · by_cases e2 : i < k
            · rw [if_neg e, if_pos e2, if_pos (by omega)]
            · rw [if_neg e, if_neg e2, if_neg (by omega)]
        · have q2 : ¬ (k : Int) < 16 := by omega
          have V1 := hid_in (HV.out.congr (h := fun i => there (x i)) (fun i hi => by show (if i < k then _ else _) = _; rw [if_pos (by omega)]))
          obtain ⟨g', c', hu', _, _, R, hfz⟩ := V1.out.own.row (by omega)
          obtain ⟨rfl, rfl⟩ : g = g' ∧ c = c' := by simpa using hu'
          have RR := hid_in R
          clear R hfz hu' HV hz
          go_wp2_with fail
          refine (l6Shift_any g c 1 1 _ _ RR.out (.inl ⟨rfl, rfl⟩)).mono ?_
          rintro e w5 ⟨v5, rfl, O5, hb5⟩
          have L5 := hid_in (LS.of_mk V1.out.bel O5 hb5)
          obtain ⟨g5, c5, rfl, hc5, hg5, R5, hf5⟩ := O5.row (by omega)
          have HR5 := hid_in R5
          have sb5 := shf_by (c := 1) (there_by hsb)
          have RK5 := hid_in (RK.out.at L5.out.bel RK.out.lt)
          clear RR V1 O5 hb5 R5 hf5
          by_cases hq9 : q < 10
          · have q9 : (q : Int) < 10 := by omega
            go_wp2_with fail
            have RF : NR (w5.alloc (.cells #[.int .i64 2, .int .i64 3, .int .i64 1, .int .i64 1] 3)) w5.heap.size 4 fac := ⟨by simp, fun i hi => by
              have hi' : i = 0 ∨ i = 1 ∨ i = 2 ∨ i = 3 := by omega
              rcases hi' with rfl | rfl | rfl | rfl <;> simp [fac]⟩
            refine (l6Mix_any g5 c5 _ 4 _ fac _ (HR5.out.later (below_box _ _)) RF sb5 (by intro i hi; unfold fac; split <;> (try split) <;> omega)).mono ?_
            rintro e w6 ⟨v6, rfl, O6, hb6⟩
            have L6 := hid_in (LS.of_mk (L5.out.bel.alloc L5.out.bel.size _) O6 hb6)
            obtain ⟨g6, c6, rfl, hc6, hg6, R6, hf6⟩ := O6.row (by omega)
            have HR6 := hid_in R6
            have RK6 := hid_in (RK.out.at L6.out.bel RK.out.lt)
            clear RF O6 hb6 R6 hf6 L5 HR5 RK5
            go_wp2_with fail
            refine (l6Add_any g6 c6 gk ck q _ (flatK K) _ HR6.out RK6.out hq10 (mix_by sb5) (flatK_by hK)).mono ?_
            rintro e w7 ⟨v7, rfl, O7, hb7⟩
            have L7 := hid_in ((LS.of_mk L6.out.bel O7 hb7).congr (h := stp K q x) (fun i hi => by show mix _ _ i ^^^ flatK K (16 * q + i) = stp K q x i; rw [flatK_at K q i hi]; unfold stp; rw [if_pos hq9]))
            clear O7 hb7 HR6 RK6 L6
            go_wp2_with fail
            refine ⟨⟨q, hq10, by simp, ?_⟩, by have := HQ.out; simp [intOf]; omega⟩
            rw [QE.out]; exact L7
          · have q9 : ¬ (q : Int) < 10 := by omega
            go_wp2_with fail
            refine (l6Add_any g5 c5 gk ck q _ (flatK K) _ HR5.out RK5.out hq10 sb5 (flatK_by hK)).mono ?_
            rintro e w7 ⟨v7, rfl, O7, hb7⟩
            have L7 := hid_in ((LS.of_mk L5.out.bel O7 hb7).congr (h := stp K q x) (fun i hi => by show shf 1 _ i ^^^ flatK K (16 * q + i) = stp K q x i; rw [flatK_at K q i hi]; unfold stp; rw [if_neg hq9]))
            clear O7 hb7 HR5 RK5 L5
            go_wp2_with fail
            refine ⟨⟨q, hq10, by simp, ?_⟩, by have := HQ.out; simp [intOf]; omega⟩
            rw [QE.out]; exact L7
    · obtain rfl : r = 10 := by omega
      obtain ⟨g, c, hu, hc, hg, R, hfz⟩ := HW.out.own.row (by omega)
      have HR3 := hid_in R
      rw [hu]
      clear hu R hfz
      go_wp2_with fail
      refine (l6Text_any g c 16 _ _ HR3.out (by omega) (enc_by hK hf 10 (by omega))).mono ?_
      rintro e w8 ⟨rfl, hb8⟩
      go_wp2_with fail
      go_ret
      exact ⟨rfl, below_later HB1.out (below_later HW.out.bel hb8)⟩
end Go.Proofs.YtefmmopkikpnhaaGreatDoor

namespace Go.Proofs.YtefmmopkikpnhaaGreatDoor
open Go.RowKit Go.LatT Go.BlockM Go.PlainAid Go.OpnT Go.ApdG Go.BytM Go.AesM
set_option linter.unusedVariables false
set_option linter.unusedSimpArgs false
end Go.Proofs.YtefmmopkikpnhaaGreatDoor

namespace Go.Proofs.YtefmmopkikpnhaaGreatDoor
open Go.RowKit Go.LatT Go.BlockM Go.PlainAid Go.OpnT Go.ApdG Go.BytM Go.AesM
set_option linter.unusedVariables false
set_option linter.unusedSimpArgs false
/-- What goes into the first byte of a round. -/
def rc : Nat → Nat
  | 0 => 1
  | n + 1 => xt (rc n)
theorem rc_lt : ∀ n, rc n < 256
  | 0 => by decide
  | n + 1 => xt_lt _ (rc_lt n)
/-- The keys of the rounds. -/
def KS (f : Nat → Nat) : Nat → Nat → Nat
  | 0 => f
  | n + 1 => nk (KS f n) (rc n)
theorem KS_by {f : Nat → Nat} (hf : By 16 f) : ∀ n, By 16 (KS f n)
  | 0 => hf
  | n + 1 => fun i hi => nk_lt (KS_by hf n) (rc_lt n) i hi
/-- The word that is put to the one four words back. -/
def wd (f : Nat → Nat) (m j : Nat) : Nat := if m % 4 = 0 then w0 (KS f (m / 4 - 1)) (rc (m / 4 - 1)) j else flatK (KS f) (4 * m - 4 + j)
theorem key_step (f : Nat → Nat) (m i : Nat) (h4 : 4 ≤ m) (h44 : m < 44) (hi : i < 4) : flatK (KS f) (4 * m + i) = flatK (KS f) (4 * m - 16 + i) ^^^ wd f m i := by
  obtain ⟨p, hp⟩ : ∃ p, m / 4 = p + 1 := ⟨m / 4 - 1, by omega⟩
  obtain ⟨c, hc⟩ : ∃ c, m % 4 = c := ⟨_, rfl⟩
  have e1 : 4 * m + i = 16 * (p + 1) + (4 * c + i) := by omega
  have e2 : 4 * m - 16 + i = 16 * p + (4 * c + i) := by omega
  rw [e1, e2, flatK_at _ _ _ (by omega), flatK_at _ _ _ (by omega)]
  show nkc (KS f p) (rc p) ((4 * c + i) % 4) ((4 * c + i) / 4) = _
  rw [show (4 * c + i) % 4 = i by omega, show (4 * c + i) / 4 = c by omega]
  unfold wd
  rw [hc, show m / 4 - 1 = p by omega]
  by_cases h0 : c = 0
  · subst h0
    rw [if_pos rfl, nkc, Nat.xor_comm, show 4 * 0 + i = i by omega]
  · obtain ⟨d, rfl⟩ : ∃ d, c = d + 1 := ⟨c - 1, by omega⟩
    have e3 : 4 * m - 4 + i = 16 * (p + 1) + (4 * d + i) := by omega
    rw [if_neg h0, e3, flatK_at _ _ _ (by omega), nkc, Nat.xor_comm]
    congr 1
    show _ = nkc (KS f p) (rc p) ((4 * d + i) % 4) ((4 * d + i) / 4)
    rw [show (4 * d + i) % 4 = i by omega, show (4 * d + i) / 4 = d by omega]
theorem wd_lt {f : Nat → Nat} (hf : By 16 f) (m j : Nat) (hj : j < 4) : wd f m j < 256 := by
  unfold wd
  split
  · exact w0_lt (KS_by hf _) (rc_lt _) j hj
  · exact KS_by hf _ _ (Nat.mod_lt _ (by omega))
theorem flatKS_lt {f : Nat → Nat} (hf : By 16 f) (x : Nat) : flatK (KS f) x < 256 := KS_by hf _ _ (Nat.mod_lt _ (by omega))
/-- What lies where while a word is put behind. -/
structure WS (w W : World) (o : Value) (n : Nat) (f : Nat → Nat) (gw : Nat) (h : Nat → Nat) : Prop where
  ls : LS w W o n f
  blk : W.heap[gw]? = some (.cells (nC 4 h).toArray 3 (0, 0))
theorem WS.row {w W : World} {o : Value} {n gw : Nat} {f h : Nat → Nat} (s : WS w W o n f gw h) : NR W gw 4 h :=
  ⟨(Array.getElem?_eq_some_iff.1 s.blk).1, fun i hi => by rw [cell_of_row W gw i _ _ _ s.blk]; simpa using nC_get 4 h i hi⟩
theorem WS.ne {w W : World} {g c n gw : Nat} {f h : Nat → Nat} (s : WS w W (.slice (some ⟨g, 0, none⟩) n c) n f gw h) (hn : 4 < n) : g ≠ gw := by
  intro e
  subst e
  obtain ⟨_, h2⟩ := s.ls.own
  rcases h2 with ⟨h2, _⟩ | ⟨g', cap, cur, h', hb, hg, hnc, hcm, hcs, htake⟩
  · simp at h2
  · simp only [Value.slice.injEq, Option.some.injEq, Addr.mk.injEq, and_true, true_and] at h'
    obtain ⟨rfl, rfl⟩ := h'
    rw [s.blk] at hg
    have := congrArg (fun o => match o with | some (Obj.cells cs _ _) => cs.size | _ => 0) hg
    simp [nC_len] at this
    omega
theorem WS.nextD {w W W' : World} {g c : Nat} {o' : Value} {n b gw : Nat} {f h : Nat → Nat} {x : Obj} (s : WS w W (.slice (some ⟨g, 0, none⟩) n c) n f gw h) (hn : 4 < n) (O : W'.ownsRow w.heap.size 3 1 o' (n + 1) (nC n f ++ [.int .i64 (b : Int)]))
    (G : (W.drew.alloc x).grownBy W' (Value.ownBlock (.slice (some ⟨g, 0, none⟩) n c))) (e : b = f n) : WS w W' o' (n + 1) f gw h := by
  refine ⟨s.ls.nextD O G e, ?_⟩
  have hne := s.ne hn
  have hlt := s.row.lt
  obtain ⟨_, _, _, _, h5⟩ := G
  rw [h5 gw (by simp; omega) (by simp [Value.ownBlock]; exact Ne.symm hne)]
  show (W.drew.heap.push x)[gw]? = _
  rw [Array.getElem?_push, if_neg (by show ¬ gw = W.heap.size; omega)]
  exact s.blk
end Go.Proofs.YtefmmopkikpnhaaGreatDoor

namespace Go.Proofs.YtefmmopkikpnhaaGreatDoor
open Go.RowKit Go.LatT Go.BlockM Go.PlainAid Go.OpnT Go.ApdG Go.BytM Go.AesM
set_option linter.unusedVariables false
set_option linter.unusedSimpArgs false
/-- How long a list is. -/
def lenOf : Value → Nat
  | .slice _ n _ => n
  | _ => 0
set_option maxHeartbeats 4000000 in
set_option maxRecDepth 100000 in
theorem l6Keys_any (s : ByteArray) (w : World) (hs : s.size = 16) :
    Calls Tryz.prog 83 #[.string s] w fun e w' => MkP w 176 (flatK (KS (bn s))) e w' := by
  have hb := get_bt s
  have hf : By 16 (bn s) := fun i _ => bn_lt s i
  go_enter Tryz.func83, Tryz.ntmps83
  go_wp2_with fail
  refine (l6Sub_any _).mono ?_
  rintro e w1 ⟨vt, rfl, Ot, hb1⟩
  obtain ⟨gt, ct, rfl, hct, hgt, RT, _⟩ := Ot.row (by omega)
  have HT := hid_in RT
  have HB1 := hid_in hb1
  have L0 := hid_in (LS.new w1 (bn s) 3)
  clear Ot hb1 RT
  go_wp2_with fail
  go_loopw [4, 5] (fun o v wr => ∃ k : Nat, k ≤ 16 ∧ v = .int .i64 (k : Int) ∧ Hid (LS w1 wr o k (bn s))) (fun _ v _ => 16 - (intOf v).toNat)
  case atStart => exact ⟨0, Nat.zero_le _, rfl, L0⟩
  case round =>
    obtain ⟨k, hk, rfl, HL⟩ := hrel
    have hz := HL.out.bel.size
    by_cases hlt : k < 16
    · have HK := hid_in hlt
      have q4 : (k : Int) < 16 := by omega
      have q5 : (k : Int) < s.size := by omega
      have g0 := bt_nonneg s k
      have g1 := bt_le s k
      go_wp2_with (at_builtin; refine wpG elemI rfl (.tmp 16) (.tmp 21) rfl w1.heap.size _ k _ rfl (HL.out.own.alloc _) ⟨wr.heap.size, 0, none⟩ 1 1 [.int .i64 _] rfl rfl (cells_new _ _ _) (one_int _) (by omega) (by simp; omega) ?_; intro v3 w3 o3 g3 n3; have O3 := hid_in o3; have G3 := hid_in g3; clear o3 g3 n3)
      rw [← bn_int] at O3 G3
      refine ⟨⟨k + 1, HK.out, by simp, ?_⟩, by have := HK.out; simp [intOf]; omega⟩
      exact HL.out.next O3.out G3.out rfl
    · have q4 : ¬ (k : Int) < 16 := by omega
      obtain rfl : k = 16 := by omega
      have L1 := hid_in (HL.out.congr (h := flatK (KS (bn s))) (fun i hi => by have := flatK_at (KS (bn s)) 0 i hi; rw [show 16 * 0 + i = i by omega] at this; rw [this]; rfl))
      clear HL
      go_wp2_with fail
      go_loopw [4, 6] (fun o v wr => ∃ m N : Nat, 4 ≤ m ∧ m ≤ 44 ∧ 4 * m = N ∧ v = .int .i64 ((rc ((m - 1) / 4) : Nat) : Int) ∧ Hid (LS w1 wr o N (flatK (KS (bn s))))) (fun o _ _ => 176 - lenOf o)
      case atStart => exact ⟨4, 16, by omega, by omega, rfl, rfl, L1⟩
      case round =>
        obtain ⟨m, N, hm4, hm44, hmN, rfl, HW⟩ := hrel
        obtain ⟨g0, c0, hu0, hc0, hg0, R0, hfz0⟩ := HW.out.own.row (by omega)
        by_cases hlt2 : m < 44
        · have HM := hid_in (show 4 ≤ m ∧ m < 44 ∧ N = 4 * m from ⟨hm4, hlt2, hmN.symm⟩)
          have hNb1 : 16 ≤ N := by omega
          have hNb2 : N ≤ 172 := by omega
          obtain ⟨x0, hx0⟩ : ∃ x, N = x + 4 := ⟨N - 4, by omega⟩
          have r0 := R0.cell x0 (by omega)
          have r1 := R0.cell (x0 + 1) (by omega)
          have r2 := R0.cell (x0 + 2) (by omega)
          have r3 := R0.cell (x0 + 3) (by omega)
          have l0 := R0.lt
          have b0 := flatKS_lt (f := bn s) hf x0
          have b1 := flatKS_lt (f := bn s) hf (x0 + 1)
          have b2 := flatKS_lt (f := bn s) hf (x0 + 2)
          have b3 := flatKS_lt (f := bn s) hf (x0 + 3)
          obtain ⟨x1, hx1⟩ : ∃ x, x0 + 1 = x := ⟨_, rfl⟩
          obtain ⟨x2, hx2⟩ : ∃ x, x0 + 2 = x := ⟨_, rfl⟩
          obtain ⟨x3, hx3⟩ : ∃ x, x0 + 3 = x := ⟨_, rfl⟩
          rw [hx1] at r1 b1; rw [hx2] at r2 b2; rw [hx3] at r3 b3
          have p0 : (N : Int) - 4 = (x0 : Int) := by omega
          have p1 : (N : Int) - 3 = (x1 : Int) := by omega
          have p2 : (N : Int) - 2 = (x2 : Int) := by omega
          have p3 : (N : Int) - 1 = (x3 : Int) := by omega
          have z0 : IntKind.i64.wrap ((N : Int) - 4) = (x0 : Int) := by rw [IntKind.wrap_i64]; omega
          have z1 : IntKind.i64.wrap ((N : Int) - 3) = (x1 : Int) := by rw [IntKind.wrap_i64]; omega
          have z2 : IntKind.i64.wrap ((N : Int) - 2) = (x2 : Int) := by rw [IntKind.wrap_i64]; omega
          have z3 : IntKind.i64.wrap ((N : Int) - 1) = (x3 : Int) := by rw [IntKind.wrap_i64]; omega
          have t0 : IntKind.i64.wrap (x0 : Int) = (x0 : Int) := by rw [IntKind.wrap_i64]; omega
          have t1 : IntKind.i64.wrap (x1 : Int) = (x1 : Int) := by rw [IntKind.wrap_i64]; omega
          have t2 : IntKind.i64.wrap (x2 : Int) = (x2 : Int) := by rw [IntKind.wrap_i64]; omega
          have t3 : IntKind.i64.wrap (x3 : Int) = (x3 : Int) := by rw [IntKind.wrap_i64]; omega
          have y0 : (x0 : Int) < N := by omega
          have y1 : (x1 : Int) < N := by omega
          have y2 : (x2 : Int) < N := by omega
          have y3 : (x3 : Int) < N := by omega
          have qN : (N : Int) < 176 := by omega
          have E0 := hid_in (show flatK (KS (bn s)) x0 = flatK (KS (bn s)) (4 * m - 4) by rw [show x0 = 4 * m - 4 by omega])
          have E1 := hid_in (show flatK (KS (bn s)) x1 = flatK (KS (bn s)) (4 * m - 4 + 1) by rw [show x1 = 4 * m - 4 + 1 by omega])
          have E2 := hid_in (show flatK (KS (bn s)) x2 = flatK (KS (bn s)) (4 * m - 4 + 2) by rw [show x2 = 4 * m - 4 + 2 by omega])
          have E3 := hid_in (show flatK (KS (bn s)) x3 = flatK (KS (bn s)) (4 * m - 4 + 3) by rw [show x3 = 4 * m - 4 + 3 by omega])
          have HX := hid_in hx0
          have hu0' := hu0
          rw [hu0] at HW
          rw [hu0]
          clear hx0 hx1 hx2 hx3 R0 hfz0 hu0 L1 hmN
          generalize hA0 : flatK (KS (bn s)) x0 = A0 at *
          generalize hA1 : flatK (KS (bn s)) x1 = A1 at *
          generalize hA2 : flatK (KS (bn s)) x2 = A2 at *
          generalize hA3 : flatK (KS (bn s)) x3 = A3 at *
          clear hA0 hA1 hA2 hA3
          have hu0 := hid_in hu0'
          clear hu0'
          go_wp2_with fail
          go_region_held3 (fun w' => w'.cell? ⟨g0, x0, none⟩ = some (.int .i64 (A0 : Int)) ∧ w'.cell? ⟨g0, x1, none⟩ = some (.int .i64 (A1 : Int)) ∧ w'.cell? ⟨g0, x2, none⟩ = some (.int .i64 (A2 : Int)) ∧ w'.cell? ⟨g0, x3, none⟩ = some (.int .i64 (A3 : Int))) (first | go_keep | (refine ⟨?_, ?_, ?_, ?_⟩ <;> go_simp)) (fail)
          have WBk : Hid ((wr.alloc (.cells #[.int .i64 (A0 : Int), .int .i64 (A1 : Int), .int .i64 (A2 : Int), .int .i64 (A3 : Int)] 3)).drew.heap[wr.heap.size]? = some (.cells #[.int .i64 (A0 : Int), .int .i64 (A1 : Int), .int .i64 (A2 : Int), .int .i64 (A3 : Int)] 3 (0, 0))) := heap_alloc_new wr _
          have LW := hid_in (show LS w1 (wr.alloc (.cells #[.int .i64 (A0 : Int), .int .i64 (A1 : Int), .int .i64 (A2 : Int), .int .i64 (A3 : Int)] 3)).drew (.slice (some ⟨g0, 0, none⟩) N c0) N (flatK (KS (bn s))) from ⟨(HW.out.bel.alloc HW.out.bel.size _).drew, HW.out.own.alloc _⟩)
          have hzr := HW.out.bel.size
          have hsz : (wr.alloc (.cells #[.int .i64 (A0 : Int), .int .i64 (A1 : Int), .int .i64 (A2 : Int), .int .i64 (A3 : Int)] 3)).drew.heap.size = wr.heap.size + 1 := by simp
          generalize (wr.alloc (.cells #[.int .i64 (A0 : Int), .int .i64 (A1 : Int), .int .i64 (A2 : Int), .int .i64 (A3 : Int)] 3)).drew = W4 at *
          have HSZ := hid_in hsz
          clear r0 r1 r2 r3 p0 p1 p2 p3 z0 z1 z2 z3 t0 t1 t2 t3 y0 y1 y2 y3 qN HX HW hsz
          by_cases hm0 : m % 4 = 0
          · have e16 : (N : Int) % 16 = 0 := by have := HM.out; omega
            have e16' : (N : Int).tmod 16 = 0 := by rw [Int.tmod_eq_emod_of_nonneg (by omega)]; exact e16
            obtain ⟨p, hp⟩ : ∃ p, (m - 1) / 4 = p := ⟨_, rfl⟩
            rw [hp]
            have k0 := cell_of_row W4 wr.heap.size 0 _ _ _ WBk.out
            have k1 := cell_of_row W4 wr.heap.size 1 _ _ _ WBk.out
            have k2 := cell_of_row W4 wr.heap.size 2 _ _ _ WBk.out
            have k3 := cell_of_row W4 wr.heap.size 3 _ _ _ WBk.out
            simp at k0 k1 k2 k3
            have RT := HT.out.at LW.out.bel HT.out.lt
            have j0 := RT.cell A0 b0
            have j1 := RT.cell A1 b1
            have j2 := RT.cell A2 b2
            have j3 := RT.cell A3 b3
            have i0 : (A0 : Int) < 256 := by omega
            have i1 : (A1 : Int) < 256 := by omega
            have i2 : (A2 : Int) < 256 := by omega
            have i3 : (A3 : Int) < 256 := by omega
            have l4 : wr.heap.size < W4.heap.size := by have := HSZ.out; omega
            have l5 : gt < W4.heap.size := RT.lt
            have hxo := xor64 (there A1) (rc p) (Nat.lt_trans (there_lt _ b1) (by omega)) (Nat.lt_trans (rc_lt p) (by omega))
            have WD := hid_in (show (#[.int .i64 ((there A1 ^^^ rc p : Nat) : Int), .int .i64 ((there A2 : Nat) : Int), .int .i64 ((there A3 : Nat) : Int), .int .i64 ((there A0 : Nat) : Int)] : Array Value) = (nC 4 (wd (bn s) m)).toArray by
              have hm := HM.out
              have q : m / 4 - 1 = p := by omega
              have f0 : flatK (KS (bn s)) (4 * m - 4) = KS (bn s) p 12 := by rw [show 4 * m - 4 = 16 * p + 12 by omega, flatK_at _ _ _ (by omega)]
              have f1 : flatK (KS (bn s)) (4 * m - 4 + 1) = KS (bn s) p 13 := by rw [show 4 * m - 4 + 1 = 16 * p + 13 by omega, flatK_at _ _ _ (by omega)]
              have f2 : flatK (KS (bn s)) (4 * m - 4 + 2) = KS (bn s) p 14 := by rw [show 4 * m - 4 + 2 = 16 * p + 14 by omega, flatK_at _ _ _ (by omega)]
              have f3 : flatK (KS (bn s)) (4 * m - 4 + 3) = KS (bn s) p 15 := by rw [show 4 * m - 4 + 3 = 16 * p + 15 by omega, flatK_at _ _ _ (by omega)]
              rw [E0.out, E1.out, E2.out, E3.out, f0, f1, f2, f3]
              show _ = #[Value.int .i64 ((wd (bn s) m 0 : Nat) : Int), .int .i64 ((wd (bn s) m 1 : Nat) : Int), .int .i64 ((wd (bn s) m 2 : Nat) : Int), .int .i64 ((wd (bn s) m 3 : Nat) : Int)]
              unfold wd
              rw [if_pos hm0, if_pos hm0, if_pos hm0, if_pos hm0, q]
              rfl)
            have RCN := hid_in (show xt (rc p) = rc (m / 4) by rw [show m / 4 = p + 1 by have := HM.out; omega]; rfl)
            have TMS := hid_in (fun w => l6Times_any (rc p) w (rc_lt p))
            clear hp hm0 RT
            generalize there A0 = B0 at *
            generalize there A1 = B1 at *
            generalize there A2 = B2 at *
            generalize there A3 = B3 at *
            generalize rc p = RP at *
            go_wp2_with fail
            go_region_held3 (fun w' => w'.cell? ⟨wr.heap.size, 0, none⟩ = some (.int .i64 (A0 : Int)) ∧ w'.cell? ⟨wr.heap.size, 1, none⟩ = some (.int .i64 (A1 : Int)) ∧ w'.cell? ⟨wr.heap.size, 2, none⟩ = some (.int .i64 (A2 : Int)) ∧ w'.cell? ⟨wr.heap.size, 3, none⟩ = some (.int .i64 (A3 : Int)) ∧ w'.cell? ⟨gt, A0, none⟩ = some (.int .i64 (B0 : Int)) ∧ w'.cell? ⟨gt, A1, none⟩ = some (.int .i64 (B1 : Int)) ∧ w'.cell? ⟨gt, A2, none⟩ = some (.int .i64 (B2 : Int)) ∧ w'.cell? ⟨gt, A3, none⟩ = some (.int .i64 (B3 : Int))) (first | go_keep | (refine ⟨?_, ?_, ?_, ?_, ?_, ?_, ?_, ?_⟩ <;> go_simp)) (fail)
            go_wp2_with fail
            refine (TMS.out _).mono ?_
            rintro e w5 ⟨rfl, rfl⟩
            have WS0 : Hid (WS w1 (W4.alloc (.cells #[.int .i64 ((B1 ^^^ RP : Nat) : Int), .int .i64 (B2 : Int), .int .i64 (B3 : Int), .int .i64 (B0 : Int)] 3)).drew (.slice (some ⟨g0, 0, none⟩) N c0) N (flatK (KS (bn s))) W4.heap.size (wd (bn s) m)) := by
              refine ⟨⟨(LW.out.bel.alloc LW.out.bel.size _).drew, LW.out.own.alloc _⟩, ?_⟩
              rw [← WD.out]
              exact heap_alloc_new W4 _
            generalize (W4.alloc (.cells #[.int .i64 ((B1 ^^^ RP : Nat) : Int), .int .i64 (B2 : Int), .int .i64 (B3 : Int), .int .i64 (B0 : Int)] 3)).drew = W6 at *
            generalize W4.heap.size = gw at *
            clear k0 k1 k2 k3 j0 j1 j2 j3 i0 i1 i2 i3 l4 l5 hxo WD TMS LW WBk HSZ
            go_wp2_with fail
            go_loopw [4, 9] (fun o v wr => ∃ i : Nat, i ≤ 4 ∧ v = .int .i64 (i : Int) ∧ Hid (WS w1 wr o (N + i) (flatK (KS (bn s))) gw (wd (bn s) m))) (fun _ v _ => 4 - (intOf v).toNat)
            case atStart => exact ⟨0, by omega, rfl, WS0⟩
            case round =>
              obtain ⟨i, hi, rfl, HV⟩ := hrel
              obtain ⟨g, c, hu, hc, hg, R, hfz⟩ := HV.out.ls.own.row (by omega)
              have hz := HV.out.ls.bel.size
              by_cases hil : i < 4
              · have HI := hid_in hil
                obtain ⟨y, hy⟩ : ∃ y, N - 16 + i = y := ⟨_, rfl⟩
                have HY := hid_in hy
                have hyN : y < N + i := by omega
                have d1 := R.cell y hyN
                have d2 := HV.out.row.cell i hil
                have m1 := R.lt
                have m2 := HV.out.row.lt
                have Aby := flatKS_lt (f := bn s) hf y
                have Bby := wd_lt (f := bn s) hf m i hil
                have q1 : (i : Int) < 4 := by omega
                have q2 : (y : Int) < (N : Int) + (i : Int) := by omega
                have f1 : (N : Int) - 16 + (i : Int) = (y : Int) := by omega
                have f2 : IntKind.i64.wrap ((N : Int) - 16) = (N : Int) - 16 := by rw [IntKind.wrap_i64]; omega
                have f4 : IntKind.i64.wrap ((N : Int) - 16 + (i : Int)) = (y : Int) := by rw [IntKind.wrap_i64]; omega
                have f5 : IntKind.i64.wrap (y : Int) = (y : Int) := by rw [IntKind.wrap_i64]; omega
                have hst := hid_in (show flatK (KS (bn s)) y ^^^ wd (bn s) m i = flatK (KS (bn s)) (N + i) by
                  have hm := HM.out
                  have := key_step (bn s) m i hm.1 hm.2.1 hil
                  rw [hm.2.2, this, show y = 4 * m - 16 + i by omega])
                have hbase : w1.heap.size ≤ (wr.drew.alloc (.cells #[.int .i64 ((flatK (KS (bn s)) y ^^^ wd (bn s) m i : Nat) : Int)] 3)).heap.size := by simp; omega
                have hbase2 : w1.heap.size ≤ (wr.alloc (.cells #[.int .i64 ((flatK (KS (bn s)) y ^^^ wd (bn s) m i : Nat) : Int)] 3)).drew.heap.size := by simp; omega
                have hwn : ∀ j u, [Value.int .i64 ((flatK (KS (bn s)) y ^^^ wd (bn s) m i : Nat) : Int)][j]? = some u → (wr.drew.alloc (.cells #[.int .i64 ((flatK (KS (bn s)) y ^^^ wd (bn s) m i : Nat) : Int)] 3)).cell? ((⟨wr.heap.size, 0, none⟩ : Addr).add j) = some u := cells_new wr.drew _ 3
                have hwn2 : ∀ j u, [Value.int .i64 ((flatK (KS (bn s)) y ^^^ wd (bn s) m i : Nat) : Int)][j]? = some u → (wr.alloc (.cells #[.int .i64 ((flatK (KS (bn s)) y ^^^ wd (bn s) m i : Nat) : Int)] 3)).drew.cell? ((⟨wr.heap.size, 0, none⟩ : Addr).add j) = some u := cells_new wr _ 3
                have hxo := xor64 (flatK (KS (bn s)) y) (wd (bn s) m i) (by omega) (by omega)
                rw [hu] at HV
                rw [hu]
                clear hy hu R hfz
                have hwo := hid_in ((owns_drew HV.out.ls.own).alloc (.cells #[.int .i64 ((flatK (KS (bn s)) y ^^^ wd (bn s) m i : Nat) : Int)] 3))
                have hwo2 := hid_in (owns_drew (HV.out.ls.own.alloc (.cells #[.int .i64 ((flatK (KS (bn s)) y ^^^ wd (bn s) m i : Nat) : Int)] 3)))
                generalize flatK (KS (bn s)) y = A at *
                generalize hB : wd (bn s) m i = B at *
                clear hB
                go_wp2_with fail
                go_region_law (first | (refine Go.ApdG.stepG elemI rfl (.tmp 85) (.tmp 98) rfl w1.heap.size (.slice (some ⟨g, 0, none⟩) (N + i) c) (N + i) _ rfl (by first | exact hwo.out | exact hwo2.out) ⟨wr.heap.size, 0, none⟩ 1 1 [.int .i64 ((A ^^^ B : Nat) : Int)] rfl rfl (by first | exact hwn | exact hwn2) (one_int _) (by omega) (by first | exact hbase | exact hbase2) ?_; intro v3 w3 o3 g3 n3; have O3 := hid_in o3; have G3 := hid_in g3; clear o3 g3 n3))
                all_goals
                  go_wp2_with fail
                  refine ⟨⟨i + 1, HI.out, by simp, ?_⟩, by have := HI.out; simp [intOf]; omega⟩
                  exact HV.out.nextD (by omega) O3.out G3.out hst.out
              · have q1 : ¬ (i : Int) < 4 := by omega
                obtain rfl : i = 4 := by omega
                clear R hfz hu
                have LF := hid_in HV.out.ls
                go_wp2_with fail
                refine ⟨⟨m + 1, N + 4, by have := HM.out; omega, by have := HM.out; omega, by have := HM.out; omega, ?_, LF⟩, ?_⟩
                · rw [RCN.out]; simp
                · have := HM.out; obtain ⟨g, c, hu, _⟩ := HV.out.ls.own.row (by omega); rw [hu]; simp [lenOf]; omega
          · have e16 : ¬ (16 : Int) ∣ (N : Int) := by have := HM.out; omega
            have e17 : ((N : Int) % 16 == 0) = false := by simp; omega
            have e18 : ¬ (N : Int) % 16 = 0 := by omega
            have WD := hid_in (show (#[.int .i64 (A0 : Int), .int .i64 (A1 : Int), .int .i64 (A2 : Int), .int .i64 (A3 : Int)] : Array Value) = (nC 4 (wd (bn s) m)).toArray by
              rw [E0.out, E1.out, E2.out, E3.out]
              show _ = #[Value.int .i64 ((wd (bn s) m 0 : Nat) : Int), .int .i64 ((wd (bn s) m 1 : Nat) : Int), .int .i64 ((wd (bn s) m 2 : Nat) : Int), .int .i64 ((wd (bn s) m 3 : Nat) : Int)]
              unfold wd
              rw [if_neg hm0, if_neg hm0, if_neg hm0, if_neg hm0]
              rfl)
            have RCN := hid_in (show rc ((m - 1) / 4) = rc (m / 4) by rw [show (m - 1) / 4 = m / 4 by omega])
            have WS0 : Hid (WS w1 W4 (.slice (some ⟨g0, 0, none⟩) N c0) N (flatK (KS (bn s))) wr.heap.size (wd (bn s) m)) := by
              refine ⟨LW.out, ?_⟩
              rw [← WD.out]; exact WBk.out
            generalize rc ((m - 1) / 4) = RP at *
            generalize wr.heap.size = gw at *
            clear WD LW WBk HSZ hm0
            go_wp2_with fail
            go_loopw [4, 9] (fun o v wr => ∃ i : Nat, i ≤ 4 ∧ v = .int .i64 (i : Int) ∧ Hid (WS w1 wr o (N + i) (flatK (KS (bn s))) gw (wd (bn s) m))) (fun _ v _ => 4 - (intOf v).toNat)
            case atStart => exact ⟨0, by omega, rfl, WS0⟩
            case round =>
              obtain ⟨i, hi, rfl, HV⟩ := hrel
              obtain ⟨g, c, hu, hc, hg, R, hfz⟩ := HV.out.ls.own.row (by omega)
              have hz := HV.out.ls.bel.size
              by_cases hil : i < 4
              · have HI := hid_in hil
                obtain ⟨y, hy⟩ : ∃ y, N - 16 + i = y := ⟨_, rfl⟩
                have HY := hid_in hy
                have hyN : y < N + i := by omega
                have d1 := R.cell y hyN
                have d2 := HV.out.row.cell i hil
                have m1 := R.lt
                have m2 := HV.out.row.lt
                have Aby := flatKS_lt (f := bn s) hf y
                have Bby := wd_lt (f := bn s) hf m i hil
                have q1 : (i : Int) < 4 := by omega
                have q2 : (y : Int) < (N : Int) + (i : Int) := by omega
                have f1 : (N : Int) - 16 + (i : Int) = (y : Int) := by omega
                have f2 : IntKind.i64.wrap ((N : Int) - 16) = (N : Int) - 16 := by rw [IntKind.wrap_i64]; omega
                have f4 : IntKind.i64.wrap ((N : Int) - 16 + (i : Int)) = (y : Int) := by rw [IntKind.wrap_i64]; omega
                have f5 : IntKind.i64.wrap (y : Int) = (y : Int) := by rw [IntKind.wrap_i64]; omega
                have hst := hid_in (show flatK (KS (bn s)) y ^^^ wd (bn s) m i = flatK (KS (bn s)) (N + i) by
                  have hm := HM.out
                  have := key_step (bn s) m i hm.1 hm.2.1 hil
                  rw [hm.2.2, this, show y = 4 * m - 16 + i by omega])
                have hbase : w1.heap.size ≤ (wr.drew.alloc (.cells #[.int .i64 ((flatK (KS (bn s)) y ^^^ wd (bn s) m i : Nat) : Int)] 3)).heap.size := by simp; omega
                have hbase2 : w1.heap.size ≤ (wr.alloc (.cells #[.int .i64 ((flatK (KS (bn s)) y ^^^ wd (bn s) m i : Nat) : Int)] 3)).drew.heap.size := by simp; omega
                have hwn : ∀ j u, [Value.int .i64 ((flatK (KS (bn s)) y ^^^ wd (bn s) m i : Nat) : Int)][j]? = some u → (wr.drew.alloc (.cells #[.int .i64 ((flatK (KS (bn s)) y ^^^ wd (bn s) m i : Nat) : Int)] 3)).cell? ((⟨wr.heap.size, 0, none⟩ : Addr).add j) = some u := cells_new wr.drew _ 3
                have hwn2 : ∀ j u, [Value.int .i64 ((flatK (KS (bn s)) y ^^^ wd (bn s) m i : Nat) : Int)][j]? = some u → (wr.alloc (.cells #[.int .i64 ((flatK (KS (bn s)) y ^^^ wd (bn s) m i : Nat) : Int)] 3)).drew.cell? ((⟨wr.heap.size, 0, none⟩ : Addr).add j) = some u := cells_new wr _ 3
                have hxo := xor64 (flatK (KS (bn s)) y) (wd (bn s) m i) (by omega) (by omega)
                rw [hu] at HV
                rw [hu]
                clear hy hu R hfz
                have hwo := hid_in ((owns_drew HV.out.ls.own).alloc (.cells #[.int .i64 ((flatK (KS (bn s)) y ^^^ wd (bn s) m i : Nat) : Int)] 3))
                have hwo2 := hid_in (owns_drew (HV.out.ls.own.alloc (.cells #[.int .i64 ((flatK (KS (bn s)) y ^^^ wd (bn s) m i : Nat) : Int)] 3)))
                generalize flatK (KS (bn s)) y = A at *
                generalize hB : wd (bn s) m i = B at *
                clear hB
                go_wp2_with fail
                go_region_law (first | (refine Go.ApdG.stepG elemI rfl (.tmp 85) (.tmp 98) rfl w1.heap.size (.slice (some ⟨g, 0, none⟩) (N + i) c) (N + i) _ rfl (by first | exact hwo.out | exact hwo2.out) ⟨wr.heap.size, 0, none⟩ 1 1 [.int .i64 ((A ^^^ B : Nat) : Int)] rfl rfl (by first | exact hwn | exact hwn2) (one_int _) (by omega) (by first | exact hbase | exact hbase2) ?_; intro v3 w3 o3 g3 n3; have O3 := hid_in o3; have G3 := hid_in g3; clear o3 g3 n3))
                all_goals
                  go_wp2_with fail
                  refine ⟨⟨i + 1, HI.out, by simp, ?_⟩, by have := HI.out; simp [intOf]; omega⟩
                  exact HV.out.nextD (by omega) O3.out G3.out hst.out
              · have q1 : ¬ (i : Int) < 4 := by omega
                obtain rfl : i = 4 := by omega
                clear R hfz hu
                have LF := hid_in HV.out.ls
                go_wp2_with fail
                refine ⟨⟨m + 1, N + 4, by have := HM.out; omega, by have := HM.out; omega, by have := HM.out; omega, ?_, LF⟩, ?_⟩
                · rw [RCN.out]; simp
                · have := HM.out; obtain ⟨g, c, hu, _⟩ := HV.out.ls.own.row (by omega); rw [hu]; simp [lenOf]; omega
        · obtain rfl : m = 44 := by omega
          have hN : N = 176 := by omega
          subst hN
          have LF := hid_in HW.out
          rw [hu0] at LF
          rw [hu0]
          clear R0 hfz0 hu0 HW
          go_wp2_with fail
          go_ret
          exact ⟨_, rfl, LF.out.own.mono HB1.out.size, below_later HB1.out LF.out.bel⟩
end Go.Proofs.YtefmmopkikpnhaaGreatDoor

