/- Texts of numbers, texts put together, and the table turned back, in the specification, as contracts. The conditions stand at each theorem. -/
import Derived.Test.YtdbobeojbdcmdaaAesT
namespace Go.Proofs.Ytdbobeojbdcmdaa
open Go.RowKit Go.LatT Go.BlockM Go.PlainAid Go.OpnT Go.ApdG Go.BytM Go.AesM
set_option linter.unusedVariables false
set_option linter.unusedSimpArgs false
/-- A text of n bytes. -/
def tl (n : Nat) (f : Nat → Nat) : List UInt8 := (List.range n).map fun i => UInt8.ofNat (f i)
def txt (n : Nat) (f : Nat → Nat) : ByteArray := ⟨(tl n f).toArray⟩
theorem tl_len (n : Nat) (f : Nat → Nat) : (tl n f).length = n := by simp [tl]
theorem txt_size (n : Nat) (f : Nat → Nat) : (txt n f).size = n := by show (tl n f).toArray.size = n; simp [tl]
theorem tl_succ (n : Nat) (f : Nat → Nat) : tl (n + 1) f = tl n f ++ [UInt8.ofNat (f n)] := by simp [tl, List.range_succ]
theorem tl_congr {n : Nat} {f g : Nat → Nat} (h : ∀ i, i < n → f i = g i) : tl n f = tl n g := by
  unfold tl
  apply List.map_congr_left
  intro i hi
  rw [h i (List.mem_range.1 hi)]
theorem txt_congr {n : Nat} {f g : Nat → Nat} (h : ∀ i, i < n → f i = g i) : txt n f = txt n g := by unfold txt; rw [tl_congr h]
theorem txt_get (n : Nat) (f : Nat → Nat) (i : Nat) (h : i < n) : bn (txt n f) i = f i % 256 := by
  have h1 : bt (txt n f) i = ((UInt8.ofNat (f i)).toNat : Int) := by
    unfold bt
    rw [dif_pos (by rw [txt_size]; exact h)]
    have h2 : (txt n f)[i]'(by rw [txt_size]; exact h) = UInt8.ofNat (f i) := by
      show (tl n f).toArray[i]'_ = _
      simp [tl]
    rw [h2]
  unfold bn
  rw [h1]
  simp
  omega
theorem txt_bn (s : ByteArray) : txt s.size (bn s) = s := by
  apply bl_inj
  have e1 : bl (txt s.size (bn s)) = tl s.size (bn s) := bl_of _
  rw [e1]
  apply List.ext_getElem
  · rw [tl_len, bl_len]
  · intro i h1 h2
    have hi : i < s.size := by rw [tl_len] at h1; exact h1
    have h3 : bt s i = ((s[i]'hi).toNat : Int) := by unfold bt; rw [dif_pos hi]
    have h4 : bn s i = (s[i]'hi).toNat := by unfold bn; rw [h3]; rfl
    simp only [tl, List.getElem_map, List.getElem_range]
    rw [h4]
    apply UInt8.toNat_inj.1
    show (UInt8.ofNat (s[i]'hi).toNat).toNat = _
    simp
    rfl
theorem txt_eq {s : ByteArray} {n : Nat} {f : Nat → Nat} (hs : s.size = n) (h : ∀ i, i < n → bn s i = f i) : s = txt n f := by
  rw [← txt_bn s, hs]; exact txt_congr h
/-- n bytes as cells. -/
def rL (n : Nat) (f : Nat → Nat) : List Value := (List.range n).map fun i => .int .u8 (f i : Int)
theorem rL_succ (n : Nat) (f : Nat → Nat) : rL (n + 1) f = rL n f ++ [.int .u8 (f n : Int)] := by simp [rL, List.range_succ]
theorem rL_get (n : Nat) (f : Nat → Nat) (i : Nat) (h : i < n) : (rL n f)[i]? = some (.int .u8 (f i : Int)) := by simp [rL, h]
theorem rL_len (n : Nat) (f : Nat → Nat) : (rL n f).length = n := by simp [rL]
theorem elemB : ElemT Try.prog 28 5 1 (.int .u8 0) := ElemT.mk' (b := 1) Try.underlying28 (by kernel_rfl) rfl (by decide) (by decide)
theorem owns_txt {w : World} {base n : Nat} {v : Value} {f : Nat → Nat} (h : w.ownsRow base 5 1 v n (rL n f)) (hf : By n f) : (convert 28 9 v).run Try.prog w = .ok (.string (txt n f)) w := by
  have hcells := fun g hg => World.ownsRow.cells h (g := g) hg
  obtain ⟨h1, h2⟩ := h
  rcases h2 with ⟨rfl, h0⟩ | ⟨g, cap, cur, rfl, e2, e3, e4, e5, e6, e7⟩
  · subst h0
    exact run_convert_bytes_nil (P := Try.prog) (w := w) _ 5 Try.underlying28 Try.underlying5 0 0 9 Try.underlying9
  · have := run_convert_bytes_back (P := Try.prog) w 28 9 5 ⟨g, 0, none⟩ cap (tl n f) Try.underlying28 Try.underlying5 Try.underlying9 fun j hj => by
      rw [tl_len] at hj
      refine (hcells g rfl j _ (rL_get n f j hj)).trans ?_
      have := hf j hj
      simp [tl, hj]
      omega
    rw [tl_len] at this
    exact this
/-- What lies where while a text is made. -/
structure TL (w W : World) (o : Value) (n : Nat) (f : Nat → Nat) : Prop where
  bel : Below w.heap.size w W
  own : W.ownsRow w.heap.size 5 1 o n (rL n f)
theorem TL.new (w : World) (f : Nat → Nat) : TL w (w.alloc (.cells #[] 5)) (.slice (some ⟨w.heap.size, 0, none⟩) 0 0) 0 f := ⟨below_box _ _, World.ownsRow_lit w #[] 0 (Nat.le_refl _) (Nat.zero_le _) rfl⟩
theorem TL.next {w W W' : World} {o o' : Value} {n b : Nat} {f : Nat → Nat} {x : Obj} (h : TL w W o n f) (O : W'.ownsRow w.heap.size 5 1 o' (n + 1) (rL n f ++ [.int .u8 (b : Int)])) (G : (W.alloc x).grownBy W' o.ownBlock) (e : b = f n) : TL w W' o' (n + 1) f :=
  ⟨(h.bel.alloc h.bel.size _).grown G (by have := h.bel.size; simp; omega) (fun g hg => (owns_own h.own g hg).1), by subst e; rw [rL_succ]; exact O⟩
theorem TL.nextD {w W W' : World} {o o' : Value} {n b : Nat} {f : Nat → Nat} {x : Obj} (h : TL w W o n f) (O : W'.ownsRow w.heap.size 5 1 o' (n + 1) (rL n f ++ [.int .u8 (b : Int)])) (G : (W.drew.alloc x).grownBy W' o.ownBlock) (e : b = f n) : TL w W' o' (n + 1) f :=
  TL.next (W := W.drew) ⟨h.bel.drew, h.own⟩ O G e
theorem one_u8 (a : Int) : ∀ u ∈ [Value.int .u8 a], u.oneCell' = true := by intro u hu; simp at hu; subst hu; rfl
set_option maxHeartbeats 2000000 in
set_option maxRecDepth 100000 in
theorem l6Text_any (gs cs n : Nat) (s : Nat → Nat) (w : World) (hS : NR w gs n s) (hn : n ≤ 4096) (hs : By n s) :
    Calls Try.prog 40 #[.slice (some ⟨gs, 0, none⟩) n cs] w fun e w' => e = .returned (.string (txt n s)) ∧ Below w.heap.size w w' := by
  have HS := hid_in hS
  clear hS
  have L0 := hid_in (TL.new w s)
  go_enter Try.func40, Try.ntmps40
  go_wp2_with fail
  go_loopw [3, 4] (fun o v wr => ∃ k : Nat, k ≤ n ∧ v = .int .i64 (k : Int) ∧ Hid (TL w wr o k s)) (fun _ v _ => n - (intOf v).toNat)
  case atStart => exact ⟨0, Nat.zero_le _, rfl, L0⟩
  case round =>
    obtain ⟨k, hk, rfl, HL⟩ := hrel
    have hz := HL.out.bel.size
    by_cases hlt : k < n
    · have HK := hid_in hlt
      have q4 : (k : Int) < n := by omega
      have c1 := (HS.out.at HL.out.bel HS.out.lt).cell k hlt
      have m1 : gs < wr.heap.size := by have := HS.out.lt; omega
      have sk := hs k hlt
      go_wp2_with (at_builtin; refine wpG elemB rfl (.tmp 12) (.tmp 18) rfl w.heap.size _ k _ rfl (HL.out.own.alloc _) ⟨wr.heap.size, 0, none⟩ 1 1 [.int .u8 _] rfl rfl (cells_new _ _ _) (one_u8 _) (by omega) (by simp; omega) ?_; intro v3 w3 o3 g3 n3; have O3 := hid_in o3; have G3 := hid_in g3; clear o3 g3 n3)
      refine ⟨⟨k + 1, HK.out, by simp, ?_⟩, by have := HK.out; simp [intOf]; omega⟩
      exact HL.out.next O3.out G3.out rfl
    · have q4 : ¬ (k : Int) < n := by omega
      have hk' : k = n := by omega
      have HK := hid_in hk'
      have hcv := owns_txt HL.out.own (by rw [hk']; exact hs)
      go_wp2_with fail
      go_ret
      rw [← HK.out]
      exact ⟨rfl, HL.out.bel⟩
set_option maxHeartbeats 2000000 in
set_option maxRecDepth 100000 in
theorem l6Xor_any (s t : ByteArray) (w : World) (hs : s.size ≤ 4096) (ht : s.size ≤ t.size) :
    Calls Try.prog 44 #[.string s, .string t] w fun e w' => e = .returned (.string (txt s.size fun i => bn s i ^^^ bn t i)) ∧ Below w.heap.size w w' := by
  have hb := get_bt s
  have hb2 := get_bt t
  have L0 := hid_in (TL.new w (fun i => bn s i ^^^ bn t i))
  go_enter Try.func44, Try.ntmps44
  go_wp2_with fail
  go_loopw [5, 6] (fun o v wr => ∃ k : Nat, k ≤ s.size ∧ v = .int .i64 (k : Int) ∧ Hid (TL w wr o k (fun i => bn s i ^^^ bn t i))) (fun _ v _ => s.size - (intOf v).toNat)
  case atStart => exact ⟨0, Nat.zero_le _, rfl, L0⟩
  case round =>
    obtain ⟨k, hk, rfl, HL⟩ := hrel
    have hz := HL.out.bel.size
    by_cases hlt : k < s.size
    · have HK := hid_in hlt
      have q4 : (k : Int) < s.size := by omega
      have q5 : (k : Int) < t.size := by omega
      have hxo := xor8 (bn s k) (bn t k) (bn_lt s k) (bn_lt t k)
      rw [bn_int, bn_int] at hxo
      go_wp2_with fail
      go_region_held3 (fun w' => True) (go_keep) (first | (refine wpG1 elemB (.tmp 14) (.tmp 22) rfl w.heap.size _ k _ rfl (HL.out.own.alloc _) ⟨wr.heap.size, 0, none⟩ 1 1 [.int .u8 _] rfl rfl (cells_new _ _ _) (one_u8 _) (by omega) (by simp; omega) ?_; intro v3 w3 o3 g3 n3; have O3 := hid_in o3; have G3 := hid_in g3; clear o3 g3 n3))
      all_goals
        go_wp2_with fail
        refine ⟨⟨k + 1, HK.out, by simp, ?_⟩, by have := HK.out; simp [intOf]; omega⟩
        exact HL.out.nextD O3.out G3.out rfl
    · have q4 : ¬ (k : Int) < s.size := by omega
      have hk' : k = s.size := by omega
      have HK := hid_in hk'
      have hcv := owns_txt HL.out.own (fun i _ => xor_lt (bn_lt s i) (bn_lt t i))
      go_wp2_with fail
      go_ret
      rw [← HK.out]
      exact ⟨rfl, HL.out.bel⟩
end Go.Proofs.Ytdbobeojbdcmdaa
