/- The table of AES, in the program, as contracts. The conditions stand at each theorem. -/
import Derived.Test.YtdbobeojbdcmdaaAesC
namespace Go.Proofs.Ytdbobeojbdcmdaa
open Go.RowKit Go.LatT Go.BlockM Go.PlainAid Go.OpnT Go.ApdG Go.BytM Go.AesM
set_option linter.unusedVariables false
set_option linter.unusedSimpArgs false
/-- A byte turned to the left. -/
def rot (x k : Nat) : Nat := (x * 2 ^ k % 256) ||| (x / 2 ^ (8 - k))
theorem or8 (A B : Nat) (hA : A < 256) (hB : B < 256) : bits .or .u8 (A : Int) (B : Int) = ((A ||| B : Nat) : Int) := by
  show IntKind.u8.wrap ((BitVec.ofInt 8 (A : Int) ||| BitVec.ofInt 8 (B : Int)).toNat : Int) = _
  rw [BitVec.toNat_or, ofInt8 A hA, ofInt8 B hB]
  have : A ||| B < 256 := Nat.or_lt_two_pow (n := 8) hA hB
  rw [IntKind.wrap_u8]; omega
theorem rot_lt (x k : Nat) (hx : x < 256) : rot x k < 256 :=
  Nat.or_lt_two_pow (n := 8) (Nat.mod_lt _ (by decide)) (Nat.lt_of_le_of_lt (Nat.div_le_self _ _) hx)
theorem and7 (k : Nat) (h : k ≤ 4) : bits .and .u64 (k : Int) 7 = (k : Int) := by
  have : ∀ a : Fin 5, bits .and .u64 (a.1 : Int) 7 = (a.1 : Int) := by decide +kernel
  exact this ⟨k, by omega⟩
set_option maxHeartbeats 2000000 in
set_option maxRecDepth 100000 in
theorem rotl_any (x k : Nat) (w : World) (hx : x < 256) (hk : k ≤ 4) :
    Calls Try.prog 71 #[.int .u8 (x : Int), .int .i64 (k : Int)] w fun e w' => e = .returned (.int .u8 ((rot x k : Nat) : Int)) ∧ w' = w := by
  have h7 := and7 k hk
  have ho := or8 (x * 2 ^ k % 256) (x / 2 ^ (8 - k)) (Nat.mod_lt _ (by decide)) (Nat.lt_of_le_of_lt (Nat.div_le_self _ _) hx)
  go_enter Try.func71, Try.ntmps71
  go_wp2_with fail
  go_ret
  refine ⟨ret_int ?_, rfl⟩
  rw [rot, ← ho]
  simp
/-- The first k turnings put together. -/
def sbK (x : Nat) : Nat → Nat
  | 0 => 99
  | k + 1 => sbK x k ^^^ rot x k
theorem sbK_lt (x : Nat) (hx : x < 256) : ∀ k, sbK x k < 256
  | 0 => by simp [sbK]
  | k + 1 => xor_lt (sbK_lt x hx k) (rot_lt x k hx)
/-- What the inverse is turned to. -/
def sb (x : Nat) : Nat := sbK x 5
/-- A byte entered into the table. -/
def upd (F : Nat → Nat) (b to : Nat) (j : Nat) : Nat := if j = 256 + to then b else if j = b then to else F j
/-- What entering answers. -/
def EntP (F : Nat → Nat) (b x gt : Nat) (w : World) (e : Ending) (w' : World) : Prop := e = .returned (.tuple #[]) ∧ RB w' gt 512 69 (upd F b (sb x)) ∧ Below gt w w' ∧ w'.heap.size = w.heap.size ∧ ∀ k, k ≠ gt → w'.heap[k]? = w.heap[k]?
set_option maxHeartbeats 2000000 in
set_option maxRecDepth 100000 in
theorem enter_any (F : Nat → Nat) (b x gt gv : Nat) (w : World) (hb : b < 256) (hx : x < 256) (hT : RB w gt 512 69 F) (hv : w.cell? ⟨gv, 0, none⟩ = some (.pointer (some ⟨gt, 0, none⟩))) (hne : gv ≠ gt) :
    Calls Try.prog 70 #[.int .u8 (b : Int), .int .u8 (x : Int), .pointer (some ⟨gv, 0, none⟩)] w fun e w' => EntP F b x gt w e w' := by
  have T := hid_in hT
  clear hT
  go_enter Try.func70, Try.ntmps70
  go_wp2_with fail
  go_loop [5, 7] (fun o v => ∃ k : Nat, k ≤ 5 ∧ v = .int .i64 (k : Int) ∧ o = .int .u8 ((sbK x k : Nat) : Int)) (fun _ v => 5 - (intOf v).toNat)
  case atStart => exact ⟨0, Nat.zero_le _, rfl, rfl⟩
  case round =>
    obtain ⟨k, hk, rfl, rfl⟩ := hrel
    by_cases hlt : k < 5
    · have hxo := xor8 (sbK x k) (rot x k) (sbK_lt x hx k) (rot_lt x k hx)
      have HS := hid_in (show sbK x (k + 1) = sbK x k ^^^ rot x k from rfl)
      have HL := hid_in hlt
      have q1 : (k : Int) < 5 := by omega
      generalize sbK x k = a at *
      go_wp2_with fail
      refine (rotl_any x k _ hx (by have := HL.out; omega)).mono ?_
      rintro e w1 ⟨rfl, rfl⟩
      go_wp2_with fail
      exact ⟨⟨k + 1, HL.out, by simp, by rw [HS.out]⟩, by have := HL.out; simp [intOf]; omega⟩
    · obtain rfl : k = 5 := by omega
      have h2 := sbK_lt x hx 5
      have HS := hid_in (show sb x = sbK x 5 from rfl)
      generalize sbK x 5 = to at *
      have c1 := T.out.cell b (by omega)
      have c2 := T.out.cell (256 + to) (by omega)
      have c3 := T.out.frozen b
      have c4 := T.out.frozen (256 + to)
      have q2 : (b : Int) < 256 := by omega
      have q3 : (to : Int) < 256 := by omega
      have q4 : b ≠ 256 + to := by omega
      have q5 : 256 + to ≠ b := by omega
      go_wp2_with fail
      go_region
      go_wp2_with fail
      go_end0
      refine ⟨rfl, ?_, ?_, by simp, ?_⟩
      · have := (T.out.set b to).set (256 + to) b
        rw [HS.out]
        exact this
      · exact (((Below.refl gt w).setCell (p := ⟨gt, b, none⟩) (Nat.le_refl gt) _).setCell (p := ⟨gt, 256 + to, none⟩) (Nat.le_refl gt) _).drew
      · intro k hk
        show (World.setCell _ _ _).heap[k]? = _
        rw [heap_setCell_other _ ⟨gt, 256 + to, none⟩ k _ hk, heap_setCell_other _ ⟨gt, b, none⟩ k _ hk]
/-- Powers of three, and of its inverse. -/
def pw : Nat → Nat
  | 0 => 1
  | k + 1 => mul (pw k) 3
def iv : Nat → Nat
  | 0 => 1
  | k + 1 => mul (iv k) 246
theorem pw_lt : ∀ k, pw k < 256
  | 0 => by decide
  | k + 1 => mul_lt (pw_lt k)
theorem iv_lt : ∀ k, iv k < 256
  | 0 => by decide
  | k + 1 => mul_lt (iv_lt k)
/-- The table, so many bytes being entered. -/
def tabF : Nat → Nat → Nat
  | 0 => upd (fun _ => 0) 0 (sb 0)
  | k + 1 => upd (tabF k) (pw k) (sb (iv k))
theorem zeroT : Try.zeroCells69 = rC 512 (fun _ => 0) := by kernel_rfl
theorem table_lt {w : World} {gt : Nat} {F : Nat → Nat} (h : RB w gt 512 69 F) : gt < w.heap.size := h.lt
/-- What making the table answers. -/
def TabP (w : World) (e : Ending) (w' : World) : Prop := ∃ gt, e = .returned (.pointer (some ⟨gt, 0, none⟩)) ∧ w.heap.size ≤ gt ∧ RB w' gt 512 69 (tabF 255) ∧ Below w.heap.size w w'
/-- What lies where while the table is made. -/
structure TS (w W : World) (F : Nat → Nat) : Prop where
  tab : RB W w.heap.size 512 69 F
  var : W.cell? ⟨w.heap.size + 1, 0, none⟩ = some (.pointer (some ⟨w.heap.size, 0, none⟩))
  bel : Below w.heap.size w W
theorem TS.ent {w W W' : World} {F : Nat → Nat} {b x : Nat} {e : Ending} (h : TS w W F) (hp : EntP F b x w.heap.size W e W') : TS w W' (upd F b (sb x)) := by
  obtain ⟨_, h1, h2, h3, h4⟩ := hp
  refine ⟨h1, ?_, h.bel.trans h2⟩
  have := h.var
  unfold World.cell? at this ⊢
  rw [h4 _ (by simp)]
  exact this
set_option maxHeartbeats 2000000 in
set_option maxRecDepth 100000 in
theorem newTable_any (w : World) :
    Calls Try.prog 60 #[] w fun e w' => TabP w e w' := by
  have T0 : Hid (TS w ((w.alloc (.cells Try.zeroCells69 69)).alloc (.cells #[.pointer (some ⟨w.heap.size, 0, none⟩)] 42)) (fun _ => 0)) := by
    refine ⟨?_, by go_simp, by go_grown⟩
    rw [zeroT]
    exact RBlater (RB.new w 512 _ _) (below_box _ _)
  go_enter Try.func60, Try.ntmps60
  go_wp2_with fail
  generalize ((w.alloc (.cells Try.zeroCells69 69)).alloc (.cells #[.pointer (some ⟨w.heap.size, 0, none⟩)] 42)) = W0 at *
  refine (enter_any _ 0 0 w.heap.size (w.heap.size + 1) _ (by omega) (by omega) T0.out.tab T0.out.var (by omega)).mono ?_
  rintro e w1 hp1
  have T1 := hid_in (T0.out.ent hp1)
  obtain ⟨rfl, _⟩ := hp1
  clear T0
  go_wp2_with fail
  go_loopw [3, 4, 10] (fun a b v wr => ∃ k : Nat, k ≤ 255 ∧ v = .int .i64 (k : Int) ∧ a = .int .u8 ((pw k : Nat) : Int) ∧ b = .int .u8 ((iv k : Nat) : Int) ∧ Hid (TS w wr (tabF k))) (fun _ _ v _ => 255 - (intOf v).toNat)
  case atStart => exact ⟨0, Nat.zero_le _, rfl, rfl, rfl, T1⟩
  case round =>
    obtain ⟨k, hk, rfl, rfl, rfl, HW⟩ := hrel
    by_cases hlt : k < 255
    · have HL := hid_in hlt
      have q1 : (k : Int) < 255 := by omega
      go_wp2_with fail
      refine (enter_any _ (pw k) (iv k) w.heap.size (w.heap.size + 1) _ (pw_lt k) (iv_lt k) HW.out.tab HW.out.var (by omega)).mono ?_
      rintro e w2 hp2
      have T2 := hid_in (HW.out.ent hp2)
      obtain ⟨rfl, _⟩ := hp2
      clear HW
      go_wp2_with fail
      refine (times_any (pw k) 3 _ (pw_lt k) (by omega)).mono ?_
      rintro e w3 ⟨rfl, rfl⟩
      go_wp2_with fail
      refine (times_any (iv k) 246 _ (iv_lt k) (by omega)).mono ?_
      rintro e w4 ⟨rfl, rfl⟩
      go_wp2_with fail
      exact ⟨⟨k + 1, HL.out, by simp, rfl, rfl, T2⟩, by have := HL.out; simp [intOf]; omega⟩
    · obtain rfl : k = 255 := by omega
      have hv := HW.out.var
      go_wp2_with fail
      go_ret
      exact ⟨w.heap.size, rfl, Nat.le_refl _, HW.out.tab, HW.out.bel⟩
/-- The table that the specification tells. -/
def SUBL : List Nat := [99, 124, 119, 123, 242, 107, 111, 197, 48, 1, 103, 43, 254, 215, 171, 118, 202, 130, 201, 125, 250, 89, 71, 240, 173, 212, 162, 175, 156, 164, 114, 192, 183, 253, 147, 38, 54, 63, 247, 204, 52, 165, 229, 241, 113, 216, 49, 21, 4, 199, 35, 195, 24, 150, 5, 154, 7, 18, 128, 226, 235, 39, 178, 117, 9, 131, 44, 26, 27, 110, 90, 160, 82, 59, 214, 179, 41, 227, 47, 132, 83, 209, 0, 237, 32, 252, 177, 91, 106, 203, 190, 57, 74, 76, 88, 207, 208, 239, 170, 251, 67, 77, 51, 133, 69, 249, 2, 127, 80, 60, 159, 168, 81, 163, 64, 143, 146, 157, 56, 245, 188, 182, 218, 33, 16, 255, 243, 210, 205, 12, 19, 236, 95, 151, 68, 23, 196, 167, 126, 61, 100, 93, 25, 115, 96, 129, 79, 220, 34, 42, 144, 136, 70, 238, 184, 20, 222, 94, 11, 219, 224, 50, 58, 10, 73, 6, 36, 92, 194, 211, 172, 98, 145, 149, 228, 121, 231, 200, 55, 109, 141, 213, 78, 169, 108, 86, 244, 234, 101, 122, 174, 8, 186, 120, 37, 46, 28, 166, 180, 198, 232, 221, 116, 31, 75, 189, 139, 138, 112, 62, 181, 102, 72, 3, 246, 14, 97, 53, 87, 185, 134, 193, 29, 158, 225, 248, 152, 17, 105, 217, 142, 148, 155, 30, 135, 233, 206, 85, 40, 223, 140, 161, 137, 13, 191, 230, 66, 104, 65, 153, 45, 15, 176, 84, 187, 22]
def BACKL : List Nat := (List.range 256).map fun i => SUBL.idxOf i
/-- The table as a list, so many bytes being entered. -/
def runL : Nat → List Nat × Nat × Nat
  | 0 => (((List.replicate 512 0).set 0 (sb 0)).set (256 + sb 0) 0, 1, 1)
  | k + 1 => match runL k with | (l, p, i) => ((l.set p (sb i)).set (256 + sb i) p, mul p 3, mul i 246)
theorem sb_lt (x : Nat) (h : x < 256) : sb x < 256 := sbK_lt x h 5
theorem upd_list (l : List Nat) (F : Nat → Nat) (b to : Nat) (hl : l.length = 512) (h : ∀ j, j < 512 → l.getD j 0 = F j) (hb : b < 256) (ht : to < 256) : ((l.set b to).set (256 + to) b).length = 512 ∧ ∀ j, j < 512 → ((l.set b to).set (256 + to) b).getD j 0 = upd F b to j := by
  refine ⟨by simp [hl], fun j hj => ?_⟩
  rw [List.getD_eq_getElem?_getD, List.getElem?_set, List.length_set, hl]
  unfold upd
  by_cases e1 : 256 + to = j
  · rw [if_pos e1, if_pos (by omega), if_pos e1.symm]; rfl
  · rw [if_neg e1, if_neg (fun e => e1 e.symm), List.getElem?_set, hl]
    by_cases e2 : b = j
    · rw [if_pos e2, if_pos (by omega), if_pos e2.symm]; rfl
    · rw [if_neg e2, if_neg (fun e => e2 e.symm), ← List.getD_eq_getElem?_getD]
      exact h j hj
theorem runL_tab : ∀ k, (runL k).2 = (pw k, iv k) ∧ (runL k).1.length = 512 ∧ ∀ j, j < 512 → (runL k).1.getD j 0 = tabF k j
  | 0 => by
    have h := upd_list (List.replicate 512 0) (fun _ => 0) 0 (sb 0) List.length_replicate (fun j hj => by rw [List.getD_eq_getElem?_getD, List.getElem?_replicate, if_pos hj]; rfl) (by omega) (sb_lt 0 (by omega))
    exact ⟨rfl, h.1, h.2⟩
  | k + 1 => by
    obtain ⟨h1, h2, h3⟩ := runL_tab k
    have h := upd_list (runL k).1 (tabF k) (pw k) (sb (iv k)) h2 h3 (pw_lt k) (sb_lt _ (iv_lt k))
    have e : runL (k + 1) = (((runL k).1.set (pw k) (sb (iv k))).set (256 + sb (iv k)) (pw k), mul (pw k) 3, mul (iv k) 246) := by
      have a1 : (runL k).2.1 = pw k := by rw [h1]
      have a2 : (runL k).2.2 = iv k := by rw [h1]
      rw [← a1, ← a2]; rfl
    rw [e]
    exact ⟨rfl, h.1, h.2⟩
theorem runL_all : (runL 255).1 = SUBL ++ BACKL := by decide +kernel
/-- The two halves of the table. -/
def there (j : Nat) : Nat := SUBL.getD j 0
def back (j : Nat) : Nat := BACKL.getD j 0
theorem sub_len : SUBL.length = 256 := by decide +kernel
theorem back_len : BACKL.length = 256 := by decide +kernel
theorem tab_there (j : Nat) (h : j < 256) : tabF 255 j = there j := by
  rw [← (runL_tab 255).2.2 j (by omega), runL_all, List.getD_eq_getElem?_getD, List.getElem?_append_left (by rw [sub_len]; exact h), ← List.getD_eq_getElem?_getD]
  rfl
theorem tab_back (j : Nat) (h : j < 256) : tabF 255 (256 + j) = back j := by
  rw [← (runL_tab 255).2.2 (256 + j) (by omega), runL_all, List.getD_eq_getElem?_getD, List.getElem?_append_right (by rw [sub_len]; omega), sub_len, show 256 + j - 256 = j by omega, ← List.getD_eq_getElem?_getD]
  rfl
theorem sub_by : ∀ j : Fin 256, there j.1 < 256 ∧ back j.1 < 256 ∧ back (there j.1) = j.1 ∧ there (back j.1) = j.1 := by decide +kernel
end Go.Proofs.Ytdbobeojbdcmdaa
