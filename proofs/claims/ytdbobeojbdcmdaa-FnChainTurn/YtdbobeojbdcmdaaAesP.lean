/- Lists of numbers that a function makes, and the pieces of the specification of AES, as contracts. The conditions stand at each theorem. -/
import Derived.Test.YtdbobeojbdcmdaaAesN
namespace Go.Proofs.Ytdbobeojbdcmdaa
open Go.RowKit Go.LatT Go.BlockM Go.PlainAid Go.OpnT Go.ApdG Go.BytM Go.AesM
set_option linter.unusedVariables false
set_option linter.unusedSimpArgs false
/-- n numbers as cells. -/
def nC (n : Nat) (f : Nat → Nat) : List Value := (List.range n).map fun i => .int .i64 (f i : Int)
theorem nC_len (n : Nat) (f : Nat → Nat) : (nC n f).length = n := by simp [nC]
theorem nC_get (n : Nat) (f : Nat → Nat) (i : Nat) (h : i < n) : (nC n f)[i]? = some (.int .i64 (f i : Int)) := by simp [nC, h]
theorem nC_succ (n : Nat) (f : Nat → Nat) : nC (n + 1) f = nC n f ++ [.int .i64 (f n : Int)] := by simp [nC, List.range_succ]
theorem nC_congr {n : Nat} {f g : Nat → Nat} (h : ∀ i, i < n → f i = g i) : nC n f = nC n g := by
  unfold nC
  apply List.map_congr_left
  intro i hi
  rw [h i (List.mem_range.1 hi)]
theorem nC_set (n : Nat) (f : Nat → Nat) (k b : Nat) : (nC n f).set k (.int .i64 (b : Int)) = nC n (fun i => if i = k then b else f i) := by
  apply List.ext_getElem
  · simp [nC]
  · intro i h1 h2
    rw [List.getElem_set]
    by_cases h : k = i
    · subst h; simp [nC]
    · have : ¬ i = k := fun e => h e.symm
      simp [nC, h, this]
theorem elemI : ElemT Try.prog 37 3 1 (.int .i64 0) := ElemT.mk' (b := 8) Try.underlying37 (by kernel_rfl) rfl (by decide) (by decide)
/-- Numbers that lie in a row. -/
structure NR (W : World) (g n : Nat) (f : Nat → Nat) : Prop where
  lt : g < W.heap.size
  cell : ∀ i, i < n → W.cell? ⟨g, i, none⟩ = some (.int .i64 (f i : Int))
theorem NR.later {W W' : World} {g n : Nat} {f : Nat → Nat} (h : NR W g n f) (hb : Below W.heap.size W W') : NR W' g n f :=
  ⟨Nat.lt_of_lt_of_le h.lt hb.size, fun i hi => ((bcell hb).1 _ _ h.lt).trans (h.cell i hi)⟩
theorem NR.at {W W' : World} {B g n : Nat} {f : Nat → Nat} (h : NR W g n f) (hb : Below B W W') (hg : g < B) : NR W' g n f :=
  ⟨Nat.lt_of_lt_of_le h.lt hb.size, fun i hi => (hb.cell (p := ⟨g, i, none⟩) hg).trans (h.cell i hi)⟩
theorem NR.congr {W : World} {g n : Nat} {f h : Nat → Nat} (r : NR W g n f) (e : ∀ i, i < n → f i = h i) : NR W g n h := ⟨r.lt, fun i hi => by rw [← e i hi]; exact r.cell i hi⟩
/-- A list that the call owns. -/
def OL (W : World) (B : Nat) (v : Value) (n : Nat) (f : Nat → Nat) : Prop := W.ownsRow B 3 1 v n (nC n f)
theorem OL.row {W : World} {B n : Nat} {v : Value} {f : Nat → Nat} (h : OL W B v n f) (hn : 0 < n) : ∃ g c, v = .slice (some ⟨g, 0, none⟩) n c ∧ n ≤ c ∧ B ≤ g ∧ NR W g n f ∧ ∀ i, W.frozen? ⟨g, i, none⟩ = false := by
  have hcells := fun g hg => World.ownsRow.cells h (g := g) hg
  have hown := h
  obtain ⟨h1, h2⟩ := h
  rcases h2 with ⟨rfl, h0⟩ | ⟨g, cap, cur, rfl, e2, e3, e4, e5, e6, e7⟩
  · omega
  · refine ⟨g, cap, rfl, e4, e2, ⟨(Array.getElem?_eq_some_iff.1 e3).1, fun i hi => ?_⟩, fun i => ?_⟩
    · have := hcells g rfl i _ (nC_get n f i hi)
      unfold Addr.add at this
      by_cases hz : i = 0
      · rw [if_pos hz] at this; rw [hz] at this ⊢; exact this
      · rw [if_neg hz, Nat.zero_add] at this; exact this
    · exact World.ownsRow.frozenAt hown i
theorem OL.mono {W : World} {B B' n : Nat} {v : Value} {f : Nat → Nat} (h : OL W B v n f) (hB : B' ≤ B) : OL W B' v n f := by
  obtain ⟨h1, h2⟩ := h
  refine ⟨h1, ?_⟩
  rcases h2 with h2 | ⟨g, cap, cur, e1, e2, e3⟩
  · exact .inl h2
  · exact .inr ⟨g, cap, cur, e1, Nat.le_trans hB e2, e3⟩
/-- What making a list answers. -/
def MkP (w : World) (n : Nat) (f : Nat → Nat) (e : Ending) (w' : World) : Prop := ∃ v, e = .returned v ∧ OL w' w.heap.size v n f ∧ Below w.heap.size w w'
/-- What lies where while a list is made. -/
structure LS (w W : World) (o : Value) (n : Nat) (f : Nat → Nat) : Prop where
  bel : Below w.heap.size w W
  own : OL W w.heap.size o n f
theorem LS.new (w : World) (f : Nat → Nat) (t : TypeId) : LS w (w.alloc (.cells #[] 3)) (.slice (some ⟨w.heap.size, 0, none⟩) 0 0) 0 f := ⟨below_box _ _, World.ownsRow_lit w #[] 0 (Nat.le_refl _) (Nat.zero_le _) rfl⟩
theorem LS.next {w W W' : World} {o o' : Value} {n b : Nat} {f : Nat → Nat} {x : Obj} (h : LS w W o n f) (O : W'.ownsRow w.heap.size 3 1 o' (n + 1) (nC n f ++ [.int .i64 (b : Int)])) (G : (W.alloc x).grownBy W' o.ownBlock) (e : b = f n) : LS w W' o' (n + 1) f :=
  ⟨(h.bel.alloc h.bel.size _).grown G (by have := h.bel.size; simp; omega) (fun g hg => (owns_own h.own g hg).1), by subst e; unfold OL; rw [nC_succ]; exact O⟩
theorem LS.nextD {w W W' : World} {o o' : Value} {n b : Nat} {f : Nat → Nat} {x : Obj} (h : LS w W o n f) (O : W'.ownsRow w.heap.size 3 1 o' (n + 1) (nC n f ++ [.int .i64 (b : Int)])) (G : (W.drew.alloc x).grownBy W' o.ownBlock) (e : b = f n) : LS w W' o' (n + 1) f :=
  LS.next (W := W.drew) ⟨h.bel.drew, h.own⟩ O G e
theorem LS.done {w W : World} {o : Value} {n : Nat} {f : Nat → Nat} (h : LS w W o n f) : MkP w n f (.returned o) W := ⟨o, rfl, h.own, h.bel⟩
theorem one_int (a : Int) : ∀ u ∈ [Value.int .i64 a], u.oneCell' = true := by intro u hu; simp at hu; subst hu; rfl
set_option maxHeartbeats 2000000 in
set_option maxRecDepth 100000 in
theorem l6Bytes_any (s : ByteArray) (w : World) (hs : s.size ≤ 4096) :
    Calls Try.prog 55 #[.string s] w fun e w' => MkP w s.size (bn s) e w' := by
  have hb := get_bt s
  have L0 := hid_in (LS.new w (bn s) 3)
  go_enter Try.func55, Try.ntmps55
  go_wp2_with fail
  go_loopw [3, 4] (fun o v wr => ∃ k : Nat, k ≤ s.size ∧ v = .int .i64 (k : Int) ∧ Hid (LS w wr o k (bn s))) (fun _ v _ => s.size - (intOf v).toNat)
  case atStart => exact ⟨0, Nat.zero_le _, rfl, L0⟩
  case round =>
    obtain ⟨k, hk, rfl, HL⟩ := hrel
    have hz := HL.out.bel.size
    by_cases hlt : k < s.size
    · have HK := hid_in hlt
      have q4 : (k : Int) < s.size := by omega
      have g0 := bt_nonneg s k
      have g1 := bt_le s k
      go_wp2_with (at_builtin; refine wpG elemI rfl (.tmp 12) (.tmp 17) rfl w.heap.size _ k _ rfl (HL.out.own.alloc _) ⟨wr.heap.size, 0, none⟩ 1 1 [.int .i64 _] rfl rfl (cells_new _ _ _) (one_int _) (by omega) (by simp; omega) ?_; intro v3 w3 o3 g3 n3; have O3 := hid_in o3; have G3 := hid_in g3; clear o3 g3 n3)
      rw [← bn_int] at O3 G3
      refine ⟨⟨k + 1, HK.out, by simp, ?_⟩, by have := HK.out; simp [intOf]; omega⟩
      exact HL.out.next O3.out G3.out rfl
    · have hk' : k = s.size := by omega
      have HK := hid_in hk'
      have hd : ¬ (k : Int) < (s.size : Int) := by omega
      go_wp2_with fail
      go_ret
      rw [← HK.out]
      exact HL.out.done
end Go.Proofs.Ytdbobeojbdcmdaa
