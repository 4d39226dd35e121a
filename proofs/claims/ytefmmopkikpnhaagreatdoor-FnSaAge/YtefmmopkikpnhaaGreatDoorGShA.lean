/- What is proved: the contracts of ShaM, ShaA, ShaB, ShaC, ShaD, ShaE, ShaF, one behind the other. The conditions stand at each theorem. -/
import Derived.Test.YtefmmopkikpnhaaGreatDoorProg
import Derived.Test.YtefmmopkikpnhaaGreatDoorGBas
import Derived.WalkKit
import Derived.WalkSpells
import Derived.WalkLawsBesides
import Derived.BigQuiet
import Derived.Handy
import Derived.PlainAid
import Derived.Laws.IdiomStrings
import Derived.Laws.BytesArg
import Derived.Deep.RegionHeld3
import Derived.Great.BuildSlice
import Derived.Laws.Rows
import Derived.Laws.Tables
import Derived.RowKit3
import Derived.Test.YtefmmopkikpnhaaGreatDoorGAeA
namespace Go.Proofs.YtefmmopkikpnhaaGreatDoor
open Go.RowKit Go.LatT Go.BlockM Go.PlainAid Go.OpnT Go.ApdG Go.BytM Go.AesM
set_option linter.unusedVariables false
set_option linter.unusedSimpArgs false
theorem ofInt32 (A : Nat) (h : A < 4294967296) : (BitVec.ofInt 32 (A : Int)).toNat = A := by simp [BitVec.toNat_ofInt]; omega
theorem xor32 (A B : Nat) (hA : A < 4294967296) (hB : B < 4294967296) : bits .xor .u32 (A : Int) (B : Int) = ((A ^^^ B : Nat) : Int) := by
  show IntKind.u32.wrap ((BitVec.ofInt 32 (A : Int) ^^^ BitVec.ofInt 32 (B : Int)).toNat : Int) = _
  rw [BitVec.toNat_xor, ofInt32 A hA, ofInt32 B hB]
  have : A ^^^ B < 4294967296 := Nat.xor_lt_two_pow (n := 32) hA hB
  rw [IntKind.wrap_u32]; omega
theorem or32 (A B : Nat) (hA : A < 4294967296) (hB : B < 4294967296) : bits .or .u32 (A : Int) (B : Int) = ((A ||| B : Nat) : Int) := by
  show IntKind.u32.wrap ((BitVec.ofInt 32 (A : Int) ||| BitVec.ofInt 32 (B : Int)).toNat : Int) = _
  rw [BitVec.toNat_or, ofInt32 A hA, ofInt32 B hB]
  have : A ||| B < 4294967296 := Nat.or_lt_two_pow (n := 32) hA hB
  rw [IntKind.wrap_u32]; omega
theorem and32 (A B : Nat) (hA : A < 4294967296) (hB : B < 4294967296) : bits .and .u32 (A : Int) (B : Int) = ((A &&& B : Nat) : Int) := by
  show IntKind.u32.wrap ((BitVec.ofInt 32 (A : Int) &&& BitVec.ofInt 32 (B : Int)).toNat : Int) = _
  rw [BitVec.toNat_and, ofInt32 A hA, ofInt32 B hB]
  have : A &&& B < 4294967296 := Nat.and_lt_two_pow (n := 32) A hB
  rw [IntKind.wrap_u32]; omega
/-- A word turned to the right. -/
def rr (x n : Nat) : Nat := (x / 2 ^ n) ||| (x * 2 ^ (32 - n) % 4294967296)
theorem rr_lt (x n : Nat) (hx : x < 4294967296) : rr x n < 4294967296 :=
  Nat.or_lt_two_pow (n := 32) (Nat.lt_of_le_of_lt (Nat.div_le_self _ _) hx) (Nat.mod_lt _ (by decide))
/-- What a word is turned by some numbers of bits to, all put together. -/
def rs (x : Nat) (l : List Nat) : Nat := l.foldl (fun a n => a ^^^ rr x n) 0
theorem rs_snoc (x n : Nat) (l : List Nat) : rs x (l ++ [n]) = rs x l ^^^ rr x n := by simp [rs]
theorem rs_lt (x : Nat) (hx : x < 4294967296) (l : List Nat) : rs x l < 4294967296 := by
  unfold rs
  have : ∀ (l : List Nat) (a : Nat), a < 4294967296 → l.foldl (fun a n => a ^^^ rr x n) a < 4294967296 := by
    intro l
    induction l with
    | nil => intro a h; exact h
    | cons n l ih => intro a h; exact ih _ (Nat.xor_lt_two_pow (n := 32) h (rr_lt x n hx))
  exact this l 0 (by decide)
/-- The words of a block, and all that are made of them. -/
def wds (b : Nat → Nat) : Nat → Nat
  | n => if n < 16 then ((b (4 * n) * 256 + b (4 * n + 1)) * 256 + b (4 * n + 2)) * 256 + b (4 * n + 3)
    else if h : 16 ≤ n then (wds b (n - 16) + (rs (wds b (n - 15)) [7, 18] ^^^ (wds b (n - 15) / 8)) + wds b (n - 7) + (rs (wds b (n - 2)) [17, 19] ^^^ (wds b (n - 2) / 1024))) % 4294967296 else 0
  termination_by n => n
  decreasing_by all_goals omega
/-- One step on the eight words. -/
def shs (k w : Nat) (s : Nat → Nat) (i : Nat) : Nat :=
  let t := s 7 + rs (s 4) [6, 11, 25] + ((s 4 &&& s 5) ^^^ ((4294967295 - s 4) &&& s 6)) + k + w
  let u := rs (s 0) [2, 13, 22] + ((s 0 &&& s 1) ^^^ (s 0 &&& s 2) ^^^ (s 1 &&& s 2))
  if i = 0 then (t + u) % 4294967296 else if i = 4 then (s 3 + t) % 4294967296 else s (i - 1)
end Go.Proofs.YtefmmopkikpnhaaGreatDoor

namespace Go.Proofs.YtefmmopkikpnhaaGreatDoor
open Go.RowKit Go.LatT Go.BlockM Go.PlainAid Go.OpnT Go.ApdG Go.BytM Go.AesM
set_option linter.unusedVariables false
set_option linter.unusedSimpArgs false
theorem and31 (n : Nat) (h1 : 1 ≤ n) (h2 : n ≤ 31) : bits .and .u64 (IntKind.u64.wrap (-(n : Int))) 31 = ((32 - n : Nat) : Int) := by
  have : ∀ a : Fin 32, 1 ≤ a.1 → bits .and .u64 (IntKind.u64.wrap (-(a.1 : Int))) 31 = ((32 - a.1 : Nat) : Int) := by decide +kernel
  exact this ⟨n, by omega⟩ h1
set_option maxHeartbeats 2000000 in
set_option maxRecDepth 100000 in
theorem rotl32 (x n : Nat) (w : World) (hx : x < 4294967296) (h1 : 1 ≤ n) (h2 : n ≤ 31) :
    Calls Tryz.prog 190 #[.int .u32 (x : Int), .int .i64 (-(n : Int))] w fun e w' => e = .returned (.int .u32 ((rr x n : Nat) : Int)) ∧ w' = w := by
  have h7 := and31 n h1 h2
  have ho := or32 (x * 2 ^ (32 - n) % 4294967296) (x / 2 ^ n) (Nat.mod_lt _ (by decide)) (Nat.lt_of_le_of_lt (Nat.div_le_self _ _) hx)
  obtain ⟨m, hm⟩ : ∃ m, 32 - n = m := ⟨_, rfl⟩
  have e1 : IntKind.u64.wrap (32 - (m : Int)) = (n : Int) := by rw [IntKind.wrap_u64]; omega
  have e2 : (m : Int) < 32 := by omega
  rw [hm] at h7 ho
  go_enter Tryz.func190, Tryz.ntmps190
  go_wp2_with fail
  go_ret
  refine ⟨ret_int ?_, rfl⟩
  rw [rr, hm, Nat.or_comm, ← ho]
  simp
set_option maxHeartbeats 2000000 in
set_option maxRecDepth 100000 in
theorem l7Turn_any (x n : Nat) (w : World) (hx : x < 4294967296) (h1 : 1 ≤ n) (h2 : n ≤ 31) :
    Calls Tryz.prog 163 #[.int .u32 (x : Int), .int .i64 (n : Int)] w fun e w' => e = .returned (.int .u32 ((rr x n : Nat) : Int)) ∧ Below w.heap.size w w' := by
  have ho := or32 (x / 2 ^ n) (x * 2 ^ (32 - n) % 4294967296) (Nat.lt_of_le_of_lt (Nat.div_le_self _ _) hx) (Nat.mod_lt _ (by decide))
  obtain ⟨m, hm⟩ : ∃ m, 32 - n = m := ⟨_, rfl⟩
  have e1 : IntKind.i64.wrap (32 - (n : Int)) = (m : Int) := by rw [IntKind.wrap_i64]; omega
  have e0 : (32 - (n : Int)) = (m : Int) := by omega
  have e2 : IntKind.i64.wrap (m : Int) = (m : Int) := by rw [IntKind.wrap_i64]; omega
  have q1 : ¬ (n : Int) < 0 := by omega
  have q2 : ¬ (m : Int) < 0 := by omega
  rw [hm] at ho
  go_enter Tryz.func163, Tryz.ntmps163
  go_wp2_with fail
  refine wp_region_lat (Below.refl _ _) (by kernel_rfl) (by kernel_rfl) ?_
  intro hne hcl
  repeat (go_big_quiet_step (first | (fail)))
  refine wpQuiet_nil ?_
  intro w1 hb1
  obtain ⟨hc1, hf1⟩ := bcell hb1
  clear hne hcl
  go_wp2_with fail
  go_ret
  refine ⟨ret_int ?_, hb1⟩
  rw [rr, hm, ← ho]
  simp
/-- A list of numbers that lies in a block. -/
def NI (w : World) (g : Nat) (l : List Nat) : Prop := g < w.heap.size ∧ ∀ j (h : j < l.length), w.cell? ⟨g, j, none⟩ = some (.int .i64 (l[j] : Int))
set_option maxHeartbeats 2000000 in
set_option maxRecDepth 100000 in
theorem turned_any (x g c : Nat) (l : List Nat) (w : World) (hx : x < 4294967296) (hl : l.length ≤ 100) (hN : ∀ n, n ∈ l → 1 ≤ n ∧ n ≤ 31) (h : NI w g l) :
    Calls Tryz.prog 187 #[.int .u32 (x : Int), .slice (some ⟨g, 0, none⟩) l.length c] w fun e w' => e = .returned (.int .u32 ((rs x l : Nat) : Int)) ∧ Below w.heap.size w w' := by
  have hgl := h.1
  have HN := hid_in h; have HM := hid_in hN
  have hl' : (l.length : Int) ≤ 100 := by omega
  clear h hN
  go_enter Tryz.func187, Tryz.ntmps187
  go_wp2_with fail
  go_loopw [5, 10] (fun u v wr => ∃ k : Nat, k ≤ l.length ∧ u = .int .u32 ((rs x (l.take k) : Nat) : Int) ∧ v = .int .i64 (k : Int) ∧ Hid (Below w.heap.size w wr)) (fun _ v _ => l.length - (intOf v).toNat)
  case atStart => exact ⟨0, Nat.zero_le _, rfl, rfl, by show Below _ _ _; exact Below.refl _ _⟩
  case round =>
    obtain ⟨k, hk, rfl, rfl, HW⟩ := hrel
    by_cases hlt : k < l.length
    · have q1 : (k : Int) < l.length := by omega
      obtain ⟨n, hnn⟩ : ∃ n, l[k]'hlt = n := ⟨_, rfl⟩
      have hn : 1 ≤ n ∧ n ≤ 31 := by rw [← hnn]; exact HM.out _ (List.getElem_mem hlt)
      have E2 := hid_in (show rs x (l.take (k + 1)) = rs x (l.take k) ^^^ rr x n by rw [← hnn, ← rs_snoc, List.take_append_getElem hlt])
      have hx2 := xor32 (rs x (l.take k)) (rr x n) (rs_lt x hx (l.take k)) (rr_lt x _ hx)
      have KL := hid_in hlt
      have c1 : wr.cell? ⟨g, k, none⟩ = some (.int .i64 (n : Int)) := by rw [← hnn]; exact (HW.out.cell (p := ⟨g, k, none⟩) hgl).trans (HN.out.2 k hlt)
      have e4 : IntKind.i64.wrap (-(n : Int)) = -(n : Int) := by rw [IntKind.wrap_i64]; omega
      have RR := hid_in (fun w => rotl32 x n w hx hn.1 hn.2)
      generalize hA : rs x (l.take k) = A at *
      generalize hB : rr x n = B at *
      clear hnn hn hA hB
      go_wp2_with fail
      refine (RR.out _).mono ?_
      rintro e w1 ⟨rfl, rfl⟩
      go_wp2_with fail
      exact ⟨⟨k + 1, KL.out, by rw [E2.out], by simp, HW⟩, by have := KL.out; simp [intOf]; omega⟩
    · have q1 : ¬ (k : Int) < l.length := by omega
      have hk' : k = l.length := by omega
      have HK := hid_in hk'
      go_wp2_with fail
      go_ret
      exact ⟨rfl, HW.out⟩
end Go.Proofs.YtefmmopkikpnhaaGreatDoor

namespace Go.Proofs.YtefmmopkikpnhaaGreatDoor
open Go.RowKit Go.LatT Go.BlockM Go.PlainAid Go.OpnT Go.ApdG Go.BytM Go.AesM
set_option linter.unusedVariables false
set_option linter.unusedSimpArgs false
/-- n words as cells. -/
def uC (n : Nat) (f : Nat → Nat) : List Value := (List.range n).map fun i => .int .u32 (f i : Int)
theorem uC_len (n : Nat) (f : Nat → Nat) : (uC n f).length = n := by simp [uC]
theorem uC_get (n : Nat) (f : Nat → Nat) (i : Nat) (h : i < n) : (uC n f)[i]? = some (.int .u32 (f i : Int)) := by simp [uC, h]
theorem uC_succ (n : Nat) (f : Nat → Nat) : uC (n + 1) f = uC n f ++ [.int .u32 (f n : Int)] := by simp [uC, List.range_succ]
theorem uC_congr {n : Nat} {f g : Nat → Nat} (h : ∀ i, i < n → f i = g i) : uC n f = uC n g := by
  unfold uC
  apply List.map_congr_left
  intro i hi
  rw [h i (List.mem_range.1 hi)]
theorem elemU : ElemT Tryz.prog 132 131 1 (.int .u32 0) := ElemT.mk' (b := 4) Tryz.underlying132 (by kernel_rfl) rfl (by decide) (by decide)
/-- Words that lie in a row. -/
structure UR (W : World) (g n : Nat) (f : Nat → Nat) : Prop where
  lt : g < W.heap.size
  cell : ∀ i, i < n → W.cell? ⟨g, i, none⟩ = some (.int .u32 (f i : Int))
theorem UR.at {W W' : World} {B g n : Nat} {f : Nat → Nat} (h : UR W g n f) (hb : Below B W W') (hg : g < B) : UR W' g n f :=
  ⟨Nat.lt_of_lt_of_le h.lt hb.size, fun i hi => (hb.cell (p := ⟨g, i, none⟩) hg).trans (h.cell i hi)⟩
/-- Bytes that lie in a row, from somewhere on. -/
structure BR (W : World) (g o n : Nat) (f : Nat → Nat) : Prop where
  lt : g < W.heap.size
  cell : ∀ i, i < n → W.cell? ⟨g, o + i, none⟩ = some (.int .u8 (f i : Int))
theorem BR.at {W W' : World} {B g o n : Nat} {f : Nat → Nat} (h : BR W g o n f) (hb : Below B W W') (hg : g < B) : BR W' g o n f :=
  ⟨Nat.lt_of_lt_of_le h.lt hb.size, fun i hi => (hb.cell (p := ⟨g, o + i, none⟩) hg).trans (h.cell i hi)⟩
/-- A list of words that the call owns. -/
def OU (W : World) (B : Nat) (v : Value) (n : Nat) (f : Nat → Nat) : Prop := W.ownsRow B 131 1 v n (uC n f)
theorem OU.row {W : World} {B n : Nat} {v : Value} {f : Nat → Nat} (h : OU W B v n f) (hn : 0 < n) : ∃ g c, v = .slice (some ⟨g, 0, none⟩) n c ∧ n ≤ c ∧ B ≤ g ∧ UR W g n f ∧ ∀ i, W.frozen? ⟨g, i, none⟩ = false := by
  have hcells := fun g hg => World.ownsRow.cells h (g := g) hg
  have hown := h
  obtain ⟨h1, h2⟩ := h
  rcases h2 with ⟨rfl, h0⟩ | ⟨g, cap, cur, rfl, e2, e3, e4, e5, e6, e7⟩
  · omega
  · refine ⟨g, cap, rfl, e4, e2, ⟨(Array.getElem?_eq_some_iff.1 e3).1, fun i hi => ?_⟩, fun i => ?_⟩
    · have := hcells g rfl i _ (uC_get n f i hi)
      unfold Addr.add at this
      by_cases hz : i = 0
      · rw [if_pos hz] at this; rw [hz] at this ⊢; exact this
      · rw [if_neg hz, Nat.zero_add] at this; exact this
    · exact World.ownsRow.frozenAt hown i
/-- What making a list of words answers. -/
def MkU (w : World) (n : Nat) (f : Nat → Nat) (e : Ending) (w' : World) : Prop := ∃ v, e = .returned v ∧ OU w' w.heap.size v n f ∧ Below w.heap.size w w'
/-- What lies where while a list of words is made. -/
structure US (w W : World) (o : Value) (n : Nat) (f : Nat → Nat) : Prop where
  bel : Below w.heap.size w W
  own : OU W w.heap.size o n f
theorem US.next {w W W' : World} {o o' : Value} {n b : Nat} {f : Nat → Nat} {x : Obj} (h : US w W o n f) (O : W'.ownsRow w.heap.size 131 1 o' (n + 1) (uC n f ++ [.int .u32 (b : Int)])) (G : (W.alloc x).grownBy W' o.ownBlock) (e : b = f n) : US w W' o' (n + 1) f :=
  ⟨(h.bel.alloc h.bel.size _).grown G (by have := h.bel.size; simp; omega) (fun g hg => (owns_own h.own g hg).1), by subst e; unfold OU; rw [uC_succ]; exact O⟩
theorem US.nextD {w W W' : World} {o o' : Value} {n b : Nat} {f : Nat → Nat} {x : Obj} (h : US w W o n f) (O : W'.ownsRow w.heap.size 131 1 o' (n + 1) (uC n f ++ [.int .u32 (b : Int)])) (G : (W.drew.alloc x).grownBy W' o.ownBlock) (e : b = f n) : US w W' o' (n + 1) f :=
  US.next (W := W.drew) ⟨h.bel.drew, h.own⟩ O G e
theorem US.done {w W : World} {o : Value} {n : Nat} {f : Nat → Nat} (h : US w W o n f) : MkU w n f (.returned o) W := ⟨o, rfl, h.own, h.bel⟩
theorem US.make (w : World) (f : Nat → Nat) : ∃ W, (Instr.makeSlice 132 (.int .i64 0) (.int .i64 64)).run Tryz.prog w = .ok (.slice (some ⟨w.heap.size, 0, none⟩) 0 64) W ∧ US w W (.slice (some ⟨w.heap.size, 0, none⟩) 0 64) 0 f := by
  obtain ⟨i, b, hi, hz, hsz, hb, hb'⟩ := elemU.info
  obtain ⟨W, h1, h2, h3⟩ := run_make_own (P := Tryz.prog) (w := w) w.heap.size 132 131 i (.int .u32 0) 1 elemU.under hi hz hsz .i64 .i64 64 (by rw [hb]; omega) (by unfold maxLen; omega) (Nat.le_refl _)
  exact ⟨W, h1, (Below.refl _ _).grown h3 (Nat.le_refl _) (fun g hg => by simp at hg), h2⟩
theorem one_u32 (a : Int) : ∀ u ∈ [Value.int .u32 a], u.oneCell' = true := by intro u hu; simp at hu; subst hu; rfl
/-- Four bytes as a word. -/
theorem or_word (a b c d : Nat) (ha : a < 256) (hb : b < 256) (hc : c < 256) (hd : d < 256) : bits .or .u32 (bits .or .u32 (bits .or .u32 ((a : Int) * 16777216) ((b : Int) * 65536)) ((c : Int) * 256)) (d : Int) = ((((a * 256 + b) * 256 + c) * 256 + d : Nat) : Int) := by
  have h1 : bits .or .u32 ((a : Int) * 16777216) ((b : Int) * 65536) = ((a * 16777216 + b * 65536 : Nat) : Int) := by
    have := or32 (a * 16777216) (b * 65536) (by omega) (by omega)
    rw [show ((a : Int) * 16777216) = ((a * 16777216 : Nat) : Int) by omega, show ((b : Int) * 65536) = ((b * 65536 : Nat) : Int) by omega, this, show a * 16777216 = 2 ^ 24 * a by omega, Nat.two_pow_add_eq_or_of_lt (by omega : b * 65536 < 2 ^ 24)]
  have h2 : bits .or .u32 ((a * 16777216 + b * 65536 : Nat) : Int) ((c : Int) * 256) = ((a * 16777216 + b * 65536 + c * 256 : Nat) : Int) := by
    have := or32 (a * 16777216 + b * 65536) (c * 256) (by omega) (by omega)
    rw [show ((c : Int) * 256) = ((c * 256 : Nat) : Int) by omega, this, show a * 16777216 + b * 65536 = 2 ^ 16 * (a * 256 + b) by omega, Nat.two_pow_add_eq_or_of_lt (by omega : c * 256 < 2 ^ 16)]
  rw [h1, h2, or32 _ d (by omega) (by omega), show a * 16777216 + b * 65536 + c * 256 = 2 ^ 8 * ((a * 256 + b) * 256 + c) by omega, ← Nat.two_pow_add_eq_or_of_lt (by omega : d < 2 ^ 8)]
  omega
theorem or_word' (a b c d : Nat) (ha : a < 256) (hb : b < 256) (hc : c < 256) (hd : d < 256) : bits .or .u32 (bits .or .u32 (bits .or .u32 (IntKind.u32.wrap (IntKind.u32.wrap (a : Int) * 16777216)) (IntKind.u32.wrap (IntKind.u32.wrap (b : Int) * 65536))) (IntKind.u32.wrap (IntKind.u32.wrap (c : Int) * 256))) (IntKind.u32.wrap (d : Int)) = ((((a * 256 + b) * 256 + c) * 256 + d : Nat) : Int) := by
  have e : ∀ x : Int, 0 ≤ x → x < 4294967296 → IntKind.u32.wrap x = x := fun x h1 h2 => by rw [IntKind.wrap_u32]; omega
  rw [e a (by omega) (by omega), e b (by omega) (by omega), e c (by omega) (by omega), e d (by omega) (by omega), e _ (by omega) (by omega), e _ (by omega) (by omega), e _ (by omega) (by omega)]
  exact or_word a b c d ha hb hc hd
theorem US.later {w W W' : World} {o : Value} {n : Nat} {f : Nat → Nat} (h : US w W o n f) (hb : Below W.heap.size W W') : US w W' o n f := ⟨below_later h.bel hb, owns_below h.own hb⟩
theorem US.row_of {w W : World} {g n c : Nat} {f : Nat → Nat} (h : US w W (.slice (some ⟨g, 0, none⟩) n c) n f) (i : Nat) (hi : i < n) : W.cell? ⟨g, i, none⟩ = some (.int .u32 (f i : Int)) := by
  obtain ⟨g', c', e, _, _, R, _⟩ := h.own.row (by omega)
  have : g = g' := by simp at e; exact e.1
  rw [this]; exact R.cell i hi
theorem add0 (g j : Nat) : (⟨g, 0, none⟩ : Addr).add j = ⟨g, j, none⟩ := by
  unfold Addr.add
  by_cases h0 : j = 0
  · rw [if_pos h0, h0]
  · rw [if_neg h0, Nat.zero_add]
theorem wds_high (b : Nat → Nat) (i : Nat) (h : 16 ≤ i) : wds b i = (wds b (i - 16) + (rs (wds b (i - 15)) [7, 18] ^^^ (wds b (i - 15) / 8)) + wds b (i - 7) + (rs (wds b (i - 2)) [17, 19] ^^^ (wds b (i - 2) / 1024))) % 4294967296 := by
  rw [wds, if_neg (by omega), dif_pos h]
theorem wds_low (b : Nat → Nat) (i : Nat) (h : i < 16) : wds b i = ((b (4 * i) * 256 + b (4 * i + 1)) * 256 + b (4 * i + 2)) * 256 + b (4 * i + 3) := by rw [wds, if_pos h]
theorem wds_lt {b : Nat → Nat} (hb : ∀ i, i < 64 → b i < 256) (i : Nat) : wds b i < 4294967296 := by
  by_cases h : i < 16
  · rw [wds_low b i h]
    have := hb (4 * i) (by omega); have := hb (4 * i + 1) (by omega); have := hb (4 * i + 2) (by omega); have := hb (4 * i + 3) (by omega)
    omega
  · rw [wds_high b i (by omega)]; exact Nat.mod_lt _ (by decide)
set_option maxHeartbeats 2000000 in
set_option maxRecDepth 100000 in
theorem l7Words_any (g o c : Nat) (b : Nat → Nat) (w : World) (hB : BR w g o 64 b) (hb : ∀ i, i < 64 → b i < 256) (hc : 64 ≤ c) :
    Calls Tryz.prog 161 #[.slice (some ⟨g, o, none⟩) 64 c] w fun e w' => MkU w 64 (wds b) e w' := by
  have HB := hid_in hB; have HY := hid_in hb
  have hgl := hB.lt
  clear hB hb
  go_enter Tryz.func161, Tryz.ntmps161
  go_wp2_with fail
  obtain ⟨W0, hmk, hS⟩ := US.make w (wds b)
  rw [hmk]
  have L0 := hid_in hS
  clear hS hmk
  go_wp2_with fail
  go_loopw [3, 4] (fun v u wr => ∃ k : Nat, k ≤ 16 ∧ u = .int .i64 (k : Int) ∧ Hid (US w wr v k (wds b))) (fun _ u _ => 16 - (intOf u).toNat)
  case atStart => exact ⟨0, Nat.zero_le _, rfl, L0⟩
  case round =>
    obtain ⟨k, hk, rfl, HL⟩ := hrel
    have hz := HL.out.bel.size
    by_cases hlt : k < 16
    · have HK := hid_in hlt
      have q4 : (k : Int) < 16 := by omega
      obtain ⟨x, hx⟩ : ∃ x, 4 * k = x := ⟨_, rfl⟩
      have HX := hid_in hx
      have R := HB.out.at HL.out.bel hgl
      have c0 := R.cell x (by omega)
      have c1 := R.cell (x + 1) (by omega)
      have c2 := R.cell (x + 2) (by omega)
      have c3 := R.cell (x + 3) (by omega)
      have b0 := HY.out x (by omega)
      have b1 := HY.out (x + 1) (by omega)
      have b2 := HY.out (x + 2) (by omega)
      have b3 := HY.out (x + 3) (by omega)
      obtain ⟨x1, hx1⟩ : ∃ x1, x + 1 = x1 := ⟨_, rfl⟩
      obtain ⟨x2, hx2⟩ : ∃ x2, x + 2 = x2 := ⟨_, rfl⟩
      obtain ⟨x3, hx3⟩ : ∃ x3, x + 3 = x3 := ⟨_, rfl⟩
      rw [hx1] at c1 b1
      rw [hx2] at c2 b2
      rw [hx3] at c3 b3
      have e0 : 4 * (k : Int) = (x : Int) := by omega
      have e1 : (x : Int) + 1 = (x1 : Int) := by omega
      have e2 : (x : Int) + 2 = (x2 : Int) := by omega
      have e3 : (x : Int) + 3 = (x3 : Int) := by omega
      have w0 : IntKind.i64.wrap (x : Int) = (x : Int) := by rw [IntKind.wrap_i64]; omega
      have w1 : IntKind.i64.wrap (x1 : Int) = (x1 : Int) := by rw [IntKind.wrap_i64]; omega
      have w2 : IntKind.i64.wrap (x2 : Int) = (x2 : Int) := by rw [IntKind.wrap_i64]; omega
      have w3 : IntKind.i64.wrap (x3 : Int) = (x3 : Int) := by rw [IntKind.wrap_i64]; omega
      have q0 : (x : Int) < 64 := by omega
      have q1 : (x1 : Int) < 64 := by omega
      have q2 : (x2 : Int) < 64 := by omega
      have q3 : (x3 : Int) < 64 := by omega
      have HOW := hid_in (or_word' (b x) (b x1) (b x2) (b x3) b0 b1 b2 b3)
      have HWD := hid_in (show ((b x * 256 + b x1) * 256 + b x2) * 256 + b x3 = wds b k by rw [wds_low b k hlt, hx, hx1, hx2, hx3])
      have m1 : g < wr.heap.size := by omega
      clear hx hx1 hx2 hx3 R
      generalize hA : b x = A at *
      generalize hB : b x1 = B at *
      generalize hC : b x2 = C at *
      generalize hD : b x3 = D at *
      clear hA hB hC hD
      go_wp2_with fail
      go_region_held3 (fun w' => w'.cell? ⟨g, o + x, none⟩ = some (.int .u8 (A : Int)) ∧ w'.cell? ⟨g, o + x1, none⟩ = some (.int .u8 (B : Int)) ∧ w'.cell? ⟨g, o + x2, none⟩ = some (.int .u8 (C : Int)) ∧ w'.cell? ⟨g, o + x3, none⟩ = some (.int .u8 (D : Int))) (first | go_keep | (refine ⟨?_, ?_, ?_, ?_⟩ <;> go_simp)) (first | (refine wpG1 elemU (.tmp 15) (.tmp 49) rfl w.heap.size _ k _ rfl (HL.out.own.alloc _) ⟨wr.heap.size, 0, none⟩ 1 1 [.int .u32 _] rfl rfl (cells_new _ _ _) (one_u32 _) (by omega) (by simp; omega) ?_; intro v3 w3 o3 g3 n3; have O3 := hid_in o3; have G3 := hid_in g3; have z3 := grown_below (B := w.heap.size) g3 (by simp; omega) (fun g hg => (owns_own HL.out.own g hg).1); have y0 := (z3.cell (p := ⟨g, o + x, none⟩) hgl).trans (by go_simp : _ = some (Value.int .u8 (A : Int))); have y1 := (z3.cell (p := ⟨g, o + x1, none⟩) hgl).trans (by go_simp : _ = some (Value.int .u8 (B : Int))); have y2 := (z3.cell (p := ⟨g, o + x2, none⟩) hgl).trans (by go_simp : _ = some (Value.int .u8 (C : Int))); have y3 := (z3.cell (p := ⟨g, o + x3, none⟩) hgl).trans (by go_simp : _ = some (Value.int .u8 (D : Int))); clear o3 g3 n3 z3))
      go_wp2_with fail
      refine ⟨⟨k + 1, HK.out, by simp, ?_⟩, by have := HK.out; simp [intOf]; omega⟩
      have hO := O3.out
      have hG := G3.out
      rw [HOW.out] at hO
      exact HL.out.nextD (b := ((A * 256 + B) * 256 + C) * 256 + D) hO hG HWD.out
    · have q4 : ¬ (k : Int) < 16 := by omega
      obtain rfl : k = 16 := by omega
      go_wp2_with fail
      have L1 := HL
      go_loopw [3, 5] (fun v u wr => ∃ i : Nat, 16 ≤ i ∧ i ≤ 64 ∧ u = .int .i64 (i : Int) ∧ Hid (US w wr v i (wds b))) (fun _ u _ => 64 - (intOf u).toNat)
      case atStart => exact ⟨16, by omega, by omega, rfl, L1⟩
      case round =>
        clear L0 L1 hgl HB
        obtain ⟨i, h16, hi, rfl, HI⟩ := hrel
        have hz2 := HI.out.bel.size
        by_cases hlt2 : i < 64
        · obtain ⟨g', c', rfl, hgc, hgg, R, _⟩ := HI.out.own.row (by omega)
          obtain ⟨j16, h16'⟩ : ∃ j, i - 16 = j := ⟨_, rfl⟩
          obtain ⟨j15, h15'⟩ : ∃ j, i - 15 = j := ⟨_, rfl⟩
          obtain ⟨j7, h7'⟩ : ∃ j, i - 7 = j := ⟨_, rfl⟩
          obtain ⟨j2, h2'⟩ : ∃ j, i - 2 = j := ⟨_, rfl⟩
          have HR := hid_in R
          have HII := hid_in (show 16 ≤ i + 1 ∧ i + 1 ≤ 64 by omega)
          have c15 := R.cell j15 (by omega)
          have c2 := R.cell j2 (by omega)
          have HW2 := hid_in (wds_high b i h16)
          rw [h16', h15', h7', h2'] at HW2
          have hX := wds_lt HY.out j15
          have hY := wds_lt HY.out j2
          have hA := wds_lt HY.out j16
          have hD := wds_lt HY.out j7
          have T7 := hid_in (fun W => l7Turn_any (wds b j15) 7 W hX (by omega) (by omega))
          have T18 := hid_in (fun W => l7Turn_any (wds b j15) 18 W hX (by omega) (by omega))
          have T17 := hid_in (fun W => l7Turn_any (wds b j2) 17 W hY (by omega) (by omega))
          have T19 := hid_in (fun W => l7Turn_any (wds b j2) 19 W hY (by omega) (by omega))
          have q5 : (i : Int) < 64 := by omega
          have e15 : (i : Int) - 15 = (j15 : Int) := by omega
          have e2 : (i : Int) - 2 = (j2 : Int) := by omega
          have e16 : (i : Int) - 16 = (j16 : Int) := by omega
          have e7 : (i : Int) - 7 = (j7 : Int) := by omega
          have w15 : IntKind.i64.wrap (j15 : Int) = (j15 : Int) := by rw [IntKind.wrap_i64]; omega
          have w2 : IntKind.i64.wrap (j2 : Int) = (j2 : Int) := by rw [IntKind.wrap_i64]; omega
          have w16 : IntKind.i64.wrap (j16 : Int) = (j16 : Int) := by rw [IntKind.wrap_i64]; omega
          have w7 : IntKind.i64.wrap (j7 : Int) = (j7 : Int) := by rw [IntKind.wrap_i64]; omega
          have q15 : (j15 : Int) < (i : Int) := by omega
          have q2 : (j2 : Int) < (i : Int) := by omega
          have q16 : (j16 : Int) < (i : Int) := by omega
          have q7 : (j7 : Int) < (i : Int) := by omega
          have n16 : j16 < i := by omega
          have n7 : j7 < i := by omega
          clear h16' h15' h7' h2' R
          go_wp2_with fail
          refine (T7.out _).mono ?_
          rintro e w1 ⟨rfl, hb1⟩
          have H1 := hid_in (HI.out.later hb1)
          clear hb1
          go_wp2_with fail
          refine (T18.out _).mono ?_
          rintro e w2 ⟨rfl, hb2⟩
          have H2 := hid_in (H1.out.later hb2)
          clear hb2 H1
          have r7 := rr_lt (wds b j15) 7 hX
          have r18 := rr_lt (wds b j15) 18 hX
          have r17 := rr_lt (wds b j2) 17 hY
          have r19 := rr_lt (wds b j2) 19 hY
          have u1 := xor32 _ _ r7 r18
          have u2 := xor32 (rr (wds b j15) 7 ^^^ rr (wds b j15) 18) (wds b j15 / 8) (Nat.xor_lt_two_pow (n := 32) r7 r18) (by omega)
          have u3 := xor32 _ _ r17 r19
          have u4 := xor32 (rr (wds b j2) 17 ^^^ rr (wds b j2) 19) (wds b j2 / 1024) (Nat.xor_lt_two_pow (n := 32) r17 r19) (by omega)
          go_wp2_with fail
          refine (T17.out _).mono ?_
          rintro e w3 ⟨rfl, hb3⟩
          have H3 := hid_in (H2.out.later hb3)
          clear hb3 H2
          go_wp2_with fail
          refine (T19.out _).mono ?_
          rintro e w4 ⟨rfl, hb4⟩
          have H4 := hid_in (H3.out.later hb4)
          clear hb4 H3 T7 T17 T18 T19
          go_wp2_with fail
          have k16 : w4.cell? ⟨g', j16, none⟩ = some (.int .u32 (wds b j16 : Int)) := H4.out.row_of j16 n16
          have k7 : w4.cell? ⟨g', j7, none⟩ = some (.int .u32 (wds b j7 : Int)) := H4.out.row_of j7 n7
          have hg4 : g' < w4.heap.size := (owns_own H4.out.own g' rfl).2
          have hz4 := H4.out.bel.size
          have hp2 : rr (wds b j15) 7 ^^^ rr (wds b j15) 18 ^^^ wds b j15 / 8 < 4294967296 := Nat.xor_lt_two_pow (n := 32) (Nat.xor_lt_two_pow (n := 32) r7 r18) (by omega)
          have hq2 : rr (wds b j2) 17 ^^^ rr (wds b j2) 19 ^^^ wds b j2 / 1024 < 4294967296 := Nat.xor_lt_two_pow (n := 32) (Nat.xor_lt_two_pow (n := 32) r17 r19) (by omega)
          have U2 := hid_in (show bits .xor .u32 ((rr (wds b j15) 7 ^^^ rr (wds b j15) 18 : Nat) : Int) ((wds b j15 : Int) / 8) = ((rr (wds b j15) 7 ^^^ rr (wds b j15) 18 ^^^ wds b j15 / 8 : Nat) : Int) by rw [show ((wds b j15 : Int) / 8) = ((wds b j15 / 8 : Nat) : Int) by omega]; exact xor32 _ _ (Nat.xor_lt_two_pow (n := 32) r7 r18) (by omega))
          have U4 := hid_in (show bits .xor .u32 ((rr (wds b j2) 17 ^^^ rr (wds b j2) 19 : Nat) : Int) ((wds b j2 : Int) / 1024) = ((rr (wds b j2) 17 ^^^ rr (wds b j2) 19 ^^^ wds b j2 / 1024 : Nat) : Int) by rw [show ((wds b j2 : Int) / 1024) = ((wds b j2 / 1024 : Nat) : Int) by omega]; exact xor32 _ _ (Nat.xor_lt_two_pow (n := 32) r17 r19) (by omega))
          have HV := HW2.out
          simp only [rs, List.foldl_cons, List.foldl_nil, Nat.zero_xor] at HV
          generalize rr (wds b j15) 7 ^^^ rr (wds b j15) 18 ^^^ wds b j15 / 8 = p at *
          generalize rr (wds b j2) 17 ^^^ rr (wds b j2) 19 ^^^ wds b j2 / 1024 = q at *
          have U16 := hid_in (uC_get i (wds b) j16 n16)
          have U7 := hid_in (uC_get i (wds b) j7 n7)
          generalize wds b j16 = A at *
          generalize wds b j7 = D at *
          have HVV := hid_in HV
          clear HV r7 r18 r17 r19 hX hY c15 c2
          have k16' : w4.drew.cell? ⟨g', j16, none⟩ = some (.int .u32 (A : Int)) := k16
          have k7' : w4.drew.cell? ⟨g', j7, none⟩ = some (.int .u32 (D : Int)) := k7
          go_region_held3 (fun w' => w'.cell? ⟨g', j16, none⟩ = some (.int .u32 (A : Int)) ∧ w'.cell? ⟨g', j7, none⟩ = some (.int .u32 (D : Int))) (first | go_keep | exact ⟨k16', k7'⟩ | (refine ⟨?_, ?_⟩ <;> go_simp)) (first | (refine wpK1 elemU (.tmp 81) (.tmp 97) rfl w.heap.size g' i c' _ rfl (H4.out.own.alloc _) ⟨w4.heap.size, 0, none⟩ 1 1 [.int .u32 _] rfl rfl (cells_new _ _ _) (one_u32 _) (by omega) (by simp; omega) ?_; intro v5 w5 GG; have y0 := GG.old j16 _ U16.out; have y1 := GG.old j7 _ U7.out; rw [add0] at y0 y1; have G5 := hid_in GG; clear GG))
          go_wp2_with fail
          refine ⟨⟨i + 1, HII.out.1, HII.out.2, by simp, ?_⟩, by have := HII.out; simp [intOf]; omega⟩
          have O := G5.out.own
          have Y := G5.out.by_
          rw [U2.out, U4.out] at O
          have ev : IntKind.u32.wrap (IntKind.u32.wrap (IntKind.u32.wrap ((A : Int) + (p : Int)) + (D : Int)) + (q : Int)) = ((((A + p + D + q) % 4294967296 : Nat)) : Int) := by rw [IntKind.wrap_u32, IntKind.wrap_u32, IntKind.wrap_u32]; omega
          rw [ev] at O
          exact H4.out.nextD (b := (A + p + D + q) % 4294967296) O Y HVV.out.symm
        · have q5 : ¬ (i : Int) < 64 := by omega
          obtain rfl : i = 64 := by omega
          go_wp2_with fail
          go_ret
          exact HI.out.done
end Go.Proofs.YtefmmopkikpnhaaGreatDoor

namespace Go.Proofs.YtefmmopkikpnhaaGreatDoor
open Go.RowKit Go.LatT Go.BlockM Go.PlainAid Go.OpnT Go.ApdG Go.BytM Go.AesM
set_option linter.unusedVariables false
set_option linter.unusedSimpArgs false
def KL : List Nat := [1116352408, 1899447441, 3049323471, 3921009573, 961987163, 1508970993, 2453635748, 2870763221, 3624381080, 310598401, 607225278, 1426881987, 1925078388, 2162078206, 2614888103, 3248222580, 3835390401, 4022224774, 264347078, 604807628, 770255983, 1249150122, 1555081692, 1996064986, 2554220882, 2821834349, 2952996808, 3210313671, 3336571891, 3584528711, 113926993, 338241895, 666307205, 773529912, 1294757372, 1396182291, 1695183700, 1986661051, 2177026350, 2456956037, 2730485921, 2820302411, 3259730800, 3345764771, 3516065817, 3600352804, 4094571909, 275423344, 430227734, 506948616, 659060556, 883997877, 958139571, 1322822218, 1537002063, 1747873779, 1955562222, 2024104815, 2227730452, 2361852424, 2428436474, 2756734187, 3204031479, 3329325298]
/-- The constants of the steps. -/
def kst (i : Nat) : Nat := KL.getD i 0
def KLZ : List Int := KL.map fun (x : Nat) => (x : Int)
theorem klZ : KLZ.map (Value.int .u32) = uC 64 kst := by kernel_rfl
theorem kst_lt (i : Nat) : kst i < 4294967296 := by
  by_cases h : i < 64
  · have : ∀ j : Fin 64, kst j.1 < 4294967296 := by decide +kernel
    exact this ⟨i, h⟩
  · have : kst i = 0 := by
      unfold kst
      rw [List.getD_eq_getElem?_getD, List.getElem?_eq_none (by show 64 ≤ i; omega)]
      rfl
    omega
set_option maxHeartbeats 2000000 in
set_option maxRecDepth 100000 in
theorem l7Consts_any (w : World) :
    Calls Tryz.prog 162 #[] w fun e w' => MkU w 64 kst e w' := by
  go_enter Tryz.func162, Tryz.ntmps162
  go_wp2_with (first | (refine wpList_buildFlat rfl 132 131 64 _ rfl .u32 KLZ (by kernel_rfl) (by kernel_rfl) (by kernel_rfl) (by kernel_rfl) (by decide) (by decide) (by kernel_rfl) ?_))
  go_ret
  refine ⟨_, rfl, ?_, below_box _ _⟩
  have h := World.ownsRow_lit (base := w.heap.size) (e := 131) (size := 1) w (uC 64 kst).toArray 64 (Nat.le_refl _) (by unfold maxLen; omega) (by rw [List.size_toArray, uC_len])
  rw [klZ]
  exact h
end Go.Proofs.YtefmmopkikpnhaaGreatDoor

namespace Go.Proofs.YtefmmopkikpnhaaGreatDoor
open Go.RowKit Go.LatT Go.BlockM Go.PlainAid Go.OpnT Go.ApdG Go.BytM Go.AesM
set_option linter.unusedVariables false
set_option linter.unusedSimpArgs false
/-- The words behind k steps. -/
def sh (b s : Nat → Nat) : Nat → Nat → Nat
  | 0 => s
  | k + 1 => shs (kst k) (wds b k) (sh b s k)
theorem shs_lt {k w : Nat} {s : Nat → Nat} (hs : ∀ i, i < 8 → s i < 4294967296) : ∀ i, i < 8 → shs k w s i < 4294967296 := by
  intro i hi
  unfold shs
  by_cases h0 : i = 0
  · simp only [h0, if_true]; exact Nat.mod_lt _ (by decide)
  · by_cases h4 : i = 4
    · subst h4; simp only [if_neg h0, if_true]; exact Nat.mod_lt _ (by decide)
    · simp only [if_neg h0, if_neg h4]; exact hs _ (by omega)
theorem sh_lt {b s : Nat → Nat} (hs : ∀ i, i < 8 → s i < 4294967296) : ∀ k i, i < 8 → sh b s k i < 4294967296
  | 0 => hs
  | k + 1 => shs_lt (sh_lt hs k)
/-- The words behind a block. -/
def shm (b s : Nat → Nat) : Nat → Nat := fun i => (s i + sh b s 64 i) % 4294967296
theorem shm_lt (b s : Nat → Nat) (i : Nat) : shm b s i < 4294967296 := Nat.mod_lt _ (by decide)
theorem wds_congr {b c : Nat → Nat} (h : ∀ i, i < 64 → b i = c i) : ∀ n, wds b n = wds c n := by
  intro n
  induction n using Nat.strongRecOn with
  | ind n ih =>
    by_cases h16 : n < 16
    · rw [wds_low b n h16, wds_low c n h16, h _ (by omega), h _ (by omega), h _ (by omega), h _ (by omega)]
    · rw [wds_high b n (by omega), wds_high c n (by omega), ih _ (by omega), ih _ (by omega), ih _ (by omega), ih _ (by omega)]
theorem sh_congr {b c s t : Nat → Nat} (h : ∀ i, i < 64 → b i = c i) (hs : ∀ i, i < 8 → s i = t i) : ∀ k i, i < 8 → sh b s k i = sh c t k i
  | 0 => hs
  | k + 1 => by
    have ih := sh_congr h hs k
    intro i hi
    show shs _ _ _ i = shs _ _ _ i
    unfold shs
    rw [wds_congr h k]
    simp only [ih 0 (by omega), ih 1 (by omega), ih 2 (by omega), ih 3 (by omega), ih 4 (by omega), ih 5 (by omega), ih 6 (by omega), ih 7 (by omega)]
    split
    · rfl
    · split
      · rfl
      · exact ih _ (by omega)
theorem shm_congr {b c s t : Nat → Nat} (h : ∀ i, i < 64 → b i = c i) (hs : ∀ i, i < 8 → s i = t i) : ∀ i, i < 8 → shm b s i = shm c t i := by
  intro i hi
  unfold shm
  rw [hs i hi, sh_congr h hs 64 i hi]
/-- How a sum begins. -/
def ini : Nat → Nat := fun i => [1779033703, 3144134277, 1013904242, 2773480762, 1359893119, 2600822924, 528734635, 1541459225].getD i 0
/-- The words behind k blocks. -/
def stt (f : Nat → Nat) : Nat → Nat → Nat
  | 0 => ini
  | k + 1 => shm (fun i => f (64 * k + i)) (stt f k)
theorem ini_lt : ∀ i, i < 8 → ini i < 4294967296 := by decide +kernel
theorem stt_lt (f : Nat → Nat) : ∀ k i, i < 8 → stt f k i < 4294967296
  | 0 => ini_lt
  | k + 1 => fun i _ => shm_lt _ _ i
theorem stt_congr {f g : Nat → Nat} : ∀ k, (∀ i, i < 64 * k → f i = g i) → ∀ i, i < 8 → stt f k i = stt g k i
  | 0, _ => fun _ _ => rfl
  | k + 1, h => shm_congr (fun i hi => h _ (by omega)) (stt_congr k (fun i hi => h i (by omega)))
/-- How many bytes a text is filled to. -/
def padN (n : Nat) : Nat := 64 * ((n + 8) / 64 + 1)
/-- The bytes that a text is filled to. -/
def pad (f : Nat → Nat) (n : Nat) : Nat → Nat := fun i => if i < n then f i else if i = n then 128 else if i < padN n - 8 then 0 else (8 * n) / 256 ^ (padN n - 1 - i) % 256
theorem pad_lt {f : Nat → Nat} {n : Nat} (hf : ∀ i, i < n → f i < 256) (i : Nat) : pad f n i < 256 := by
  unfold pad
  split
  · exact hf i (by assumption)
  · split
    · decide
    · split
      · decide
      · exact Nat.mod_lt _ (by decide)
/-- The bytes of words, the highest first. -/
def wby (s : Nat → Nat) : Nat → Nat := fun i => s (i / 4) / 256 ^ (3 - i % 4) % 256
/-- The sum of bytes, as a text. -/
def sumT (f : Nat → Nat) (n : Nat) : ByteArray := ⟨((List.range 32).map fun i => UInt8.ofNat (wby (stt (pad f n) (padN n / 64)) i)).toArray⟩
end Go.Proofs.YtefmmopkikpnhaaGreatDoor

namespace Go.Proofs.YtefmmopkikpnhaaGreatDoor
open Go.RowKit Go.LatT Go.BlockM Go.PlainAid Go.OpnT Go.ApdG Go.BytM Go.AesM Go.RowQ
set_option linter.unusedVariables false
set_option linter.unusedSimpArgs false
/-- n words as an array. -/
def uA (n : Nat) (f : Nat → Nat) : Array Value := (uC n f).toArray
theorem uA_size (n : Nat) (f : Nat → Nat) : (uA n f).size = n := by simp [uA, uC_len]
theorem uA_get (n : Nat) (f : Nat → Nat) (i : Nat) (h : i < n) : (uA n f)[i]? = some (.int .u32 (f i : Int)) := by simp [uA, uC_get n f i h]
theorem uA_one (n : Nat) (f : Nat → Nat) : (uA n f).all (·.oneCell') = true := by
  rw [Array.all_eq_true_iff_forall_mem]
  intro x hx
  simp [uA, uC] at hx
  obtain ⟨i, _, rfl⟩ := hx
  rfl
theorem uA_congr {n : Nat} {f g : Nat → Nat} (h : ∀ i, i < n → f i = g i) : uA n f = uA n g := by unfold uA; rw [uC_congr h]
theorem uC_set (n : Nat) (f : Nat → Nat) (k b : Nat) : (uC n f).set k (.int .u32 (b : Int)) = uC n (fun i => if i = k then b else f i) := by
  apply List.ext_getElem?
  intro i
  by_cases hi : i < n
  · rw [uC_get n _ i hi]
    by_cases h : k = i
    · subst h
      rw [List.getElem?_set_self (by rw [uC_len]; exact hi), if_pos rfl]
    · rw [List.getElem?_set_ne h, uC_get n f i hi, if_neg (fun e => h e.symm)]
  · rw [List.getElem?_eq_none (by rw [List.length_set, uC_len]; omega), List.getElem?_eq_none (by rw [uC_len]; omega)]
/-- Words that lie in a block of their own. -/
def UB (w : World) (g n : Nat) (t : TypeId) (f : Nat → Nat) : Prop := w.heap[g]? = some (.cells (uA n f) t (0, 0))
section
variable {w w' : World} {g n : Nat} {t : TypeId} {f f' : Nat → Nat}
theorem UB.lt (h : UB w g n t f) : g < w.heap.size := (Array.getElem?_eq_some_iff.1 h).1
theorem UB.cell (h : UB w g n t f) (i : Nat) (hi : i < n) : w.cell? ⟨g, i, none⟩ = some (.int .u32 (f i : Int)) := by
  rw [cell_of_row w g i _ _ _ h, uA_get n f i hi]
theorem UB.frozen (h : UB w g n t f) (i : Nat) : w.frozen? ⟨g, i, none⟩ = false := frozen_of_row w g i _ _ h
theorem UB.set (h : UB w g n t f) (k b : Nat) : UB (w.setCell ⟨g, k, none⟩ (.int .u32 (b : Int))) g n t (fun i => if i = k then b else f i) := by
  unfold UB
  rw [heap_setCell_same w g k _ t _ h, uA, List.setIfInBounds_toArray, uC_set, uA]
theorem UB.other (h : UB w g n t f) (b o : Nat) (v : Value) (hb : b ≠ g) : UB (w.setCell ⟨b, o, none⟩ v) g n t f := by
  unfold UB
  rw [heap_setCell_other w ⟨b, o, none⟩ g v (Ne.symm hb)]; exact h
theorem UB.congr (h : UB w g n t f) (e : ∀ i, i < n → f i = f' i) : UB w g n t f' := by
  unfold UB; rw [← uA_congr e]; exact h
theorem UB.later (h : UB w g n t f) (hb : Below w.heap.size w w') : UB w' g n t f := by
  unfold UB
  rw [hb.block g h.lt]; exact h
theorem UB.below {B : Nat} (h : UB w g n t f) (hb : Below B w w') (hg : g < B) : UB w' g n t f := by
  unfold UB
  rw [hb.block g hg]; exact h
end
theorem UB.new (w : World) (n : Nat) (t : TypeId) (f : Nat → Nat) : UB (w.alloc (.cells (uA n f) t)) w.heap.size n t f := heap_alloc_new w _
theorem zeroU64 : (#[.int .u32 0, .int .u32 0, .int .u32 0, .int .u32 0, .int .u32 0, .int .u32 0, .int .u32 0, .int .u32 0, .int .u32 0, .int .u32 0, .int .u32 0, .int .u32 0, .int .u32 0, .int .u32 0, .int .u32 0, .int .u32 0, .int .u32 0, .int .u32 0, .int .u32 0, .int .u32 0, .int .u32 0, .int .u32 0, .int .u32 0, .int .u32 0, .int .u32 0, .int .u32 0, .int .u32 0, .int .u32 0, .int .u32 0, .int .u32 0, .int .u32 0, .int .u32 0, .int .u32 0, .int .u32 0, .int .u32 0, .int .u32 0, .int .u32 0, .int .u32 0, .int .u32 0, .int .u32 0, .int .u32 0, .int .u32 0, .int .u32 0, .int .u32 0, .int .u32 0, .int .u32 0, .int .u32 0, .int .u32 0, .int .u32 0, .int .u32 0, .int .u32 0, .int .u32 0, .int .u32 0, .int .u32 0, .int .u32 0, .int .u32 0, .int .u32 0, .int .u32 0, .int .u32 0, .int .u32 0, .int .u32 0, .int .u32 0, .int .u32 0, .int .u32 0] : Array Value) = uA 64 (fun _ => 0) := by kernel_rfl
theorem sizeU64 : (Tryz.prog.info? 224).map (·.size) = some 64 := by kernel_rfl
theorem sizeWd8 : (Tryz.prog.info? 187).map (·.size) = some 8 := by kernel_rfl
theorem aggB64 : AggT Tryz.prog 185 64 := ⟨fun w => by kernel_rfl, fun w => by kernel_rfl⟩
theorem aggWd8 : AggT Tryz.prog 187 8 := ⟨fun w => by kernel_rfl, fun w => by kernel_rfl⟩
/-- The first m bytes of a word. -/
def pwk (b : Nat → Nat) (j : Nat) : Nat → Nat
  | 0 => 0
  | m + 1 => pwk b j m * 256 + b (4 * j + m)
/-- A word behind i bytes. -/
def pwW (b : Nat → Nat) (i j : Nat) : Nat := pwk b j (min (i - 4 * j) 4)
theorem pwk_lt {b : Nat → Nat} (hb : ∀ i, i < 64 → b i < 256) (j : Nat) (hj : j < 16) : ∀ m, m ≤ 4 → pwk b j m < 256 ^ m
  | 0, _ => by simp [pwk]
  | m + 1, h => by
    have h1 := pwk_lt hb j hj m (by omega)
    have h2 := hb (4 * j + m) (by omega)
    rw [pwk, Nat.pow_succ]; omega
theorem pw_zero (b : Nat → Nat) (j : Nat) : pwW b 0 j = 0 := by simp [pwW, pwk]
theorem pw_all (b : Nat → Nat) (j : Nat) (h : j < 16) : pwW b 64 j = wds b j := by
  have e : min (64 - 4 * j) 4 = 4 := by omega
  rw [wds_low b j h, pwW, e]
  simp [pwk]
theorem pw_step (b : Nat → Nat) (i j : Nat) : pwW b (i + 1) j = if j = i / 4 then pwW b i j * 256 + b i else pwW b i j := by
  by_cases h : j = i / 4
  · subst h
    rw [if_pos rfl]
    have e1 : min (i + 1 - 4 * (i / 4)) 4 = min (i - 4 * (i / 4)) 4 + 1 := by omega
    have e2 : 4 * (i / 4) + min (i - 4 * (i / 4)) 4 = i := by omega
    rw [pwW, pwW, e1, pwk, e2]
  · rw [if_neg h, pwW, pwW]
    congr 1
    omega
theorem pw_at {b : Nat → Nat} (hb : ∀ i, i < 64 → b i < 256) (i : Nat) (hi : i < 64) : pwW b i (i / 4) < 16777216 := by
  have e1 : min (i - 4 * (i / 4)) 4 = i % 4 := by omega
  rw [pwW, e1]
  have h := pwk_lt hb (i / 4) (by omega) (i % 4) (by omega)
  have : (256 : Nat) ^ (i % 4) ≤ 256 ^ 3 := Nat.pow_le_pow_right (by decide) (by omega)
  omega
/-- What lies where while the words are made. -/
structure WdS (w W : World) (f : Nat → Nat) : Prop where
  zer : UB W w.heap.size 64 224 (fun _ => 0)
  wrd : UB W (w.heap.size + 1) 64 224 f
  bel : Below w.heap.size w W
section
variable {w W W' : World} {f f' : Nat → Nat}
theorem WdS.later (h : WdS w W f) (hb : Below W.heap.size W W') : WdS w W' f := ⟨h.zer.later hb, h.wrd.later hb, below_later h.bel hb⟩
theorem WdS.drew (h : WdS w W f) : WdS w W.drew f := ⟨h.zer, h.wrd, h.bel.drew⟩
theorem WdS.set (h : WdS w W f) (k b : Nat) : WdS w (W.setCell ⟨w.heap.size + 1, k, none⟩ (.int .u32 (b : Int))) (fun i => if i = k then b else f i) :=
  ⟨h.zer.other _ _ _ (by omega), h.wrd.set k b, h.bel.setCell (by simp) _⟩
theorem WdS.congr (h : WdS w W f) (e : ∀ i, i < 64 → f i = f' i) : WdS w W f' := ⟨h.zer, h.wrd.congr e, h.bel⟩
theorem WdS.new (w : World) : WdS w ((w.alloc (.cells (uA 64 fun _ => 0) 224)).alloc (.cells (uA 64 fun _ => 0) 224)) (fun _ => 0) := by
  refine ⟨(UB.new w 64 _ _).later (below_box _ _), ?_, ((Below.refl _ _).alloc (Nat.le_refl _) _).alloc (by simp) _⟩
  have := UB.new (w.alloc (.cells (uA 64 fun _ => 0) 224)) 64 224 (fun _ => 0)
  simpa using this
end
end Go.Proofs.YtefmmopkikpnhaaGreatDoor

namespace Go.Proofs.YtefmmopkikpnhaaGreatDoor
open Go.RowKit Go.LatT Go.BlockM Go.PlainAid Go.OpnT Go.ApdG Go.BytM Go.AesM Go.RowQ
set_option linter.unusedVariables false
set_option linter.unusedSimpArgs false
theorem add_at (g o j : Nat) : (⟨g, o, none⟩ : Addr).add j = ⟨g, o + j, none⟩ := by
  unfold Addr.add
  by_cases h0 : j = 0
  · rw [if_pos h0, h0, Nat.add_zero]
  · rw [if_neg h0]
theorem frz_alloc (w : World) (c : Array Value) (t : TypeId) (a : Addr) : (w.alloc (.cells c t)).frozen? a = w.frozen? a := Go.RowKit.frozen?_alloc_cells w c t a
theorem turned2 (x g c a b : Nat) (w : World) (hx : x < 4294967296) (ha : 1 ≤ a ∧ a ≤ 31) (hb : 1 ≤ b ∧ b ≤ 31) (h : g < w.heap.size) (c0 : w.cell? ⟨g, 0, none⟩ = some (.int .i64 (a : Int))) (c1 : w.cell? ⟨g, 1, none⟩ = some (.int .i64 (b : Int))) :
    Calls Tryz.prog 187 #[.int .u32 (x : Int), .slice (some ⟨g, 0, none⟩) 2 c] w fun e w' => e = .returned (.int .u32 ((rs x [a, b] : Nat) : Int)) ∧ Below w.heap.size w w' :=
  turned_any x g c [a, b] w hx (by simp) (by intro n hn; simp at hn; rcases hn with rfl | rfl <;> assumption) ⟨h, fun j hj => by
    match j, hj with
    | 0, _ => exact c0
    | 1, _ => exact c1
    | j + 2, hj => simp at hj; omega⟩
theorem turned3 (x g c a b d : Nat) (w : World) (hx : x < 4294967296) (ha : 1 ≤ a ∧ a ≤ 31) (hb : 1 ≤ b ∧ b ≤ 31) (hd : 1 ≤ d ∧ d ≤ 31) (h : g < w.heap.size) (c0 : w.cell? ⟨g, 0, none⟩ = some (.int .i64 (a : Int))) (c1 : w.cell? ⟨g, 1, none⟩ = some (.int .i64 (b : Int))) (c2 : w.cell? ⟨g, 2, none⟩ = some (.int .i64 (d : Int))) :
    Calls Tryz.prog 187 #[.int .u32 (x : Int), .slice (some ⟨g, 0, none⟩) 3 c] w fun e w' => e = .returned (.int .u32 ((rs x [a, b, d] : Nat) : Int)) ∧ Below w.heap.size w w' :=
  turned_any x g c [a, b, d] w hx (by simp) (by intro n hn; simp at hn; rcases hn with rfl | rfl | rfl <;> assumption) ⟨h, fun j hj => by
    match j, hj with
    | 0, _ => exact c0
    | 1, _ => exact c1
    | 2, _ => exact c2
    | j + 3, hj => simp at hj; omega⟩
theorem nAggU8 (w : World) : (isAgg 5).run Tryz.prog w = .ok false w := by kernel_rfl
theorem nSizeU8 (w : World) : (sizeOf 5).run Tryz.prog w = .ok 1 w := by kernel_rfl
theorem nAggU32 (w : World) : (isAgg 131).run Tryz.prog w = .ok false w := by kernel_rfl
theorem nSizeU32 (w : World) : (sizeOf 131).run Tryz.prog w = .ok 1 w := by kernel_rfl
theorem idxB64 (f : Nat → Nat) (k : Nat) (h : k < 64) (W : World) : (Instr.index 185 (.agg (rC 64 f)) (.int .i64 (k : Int))).run Tryz.prog W = .ok (.int .u8 (f k : Int)) W := by
  have h2 : (k : Int) < 64 := by omega
  have h3 := rC_get 64 f k h
  simp [Instr.index, run_underlying Tryz.underlying185, asIntOf, h, h2, h3, go_sem, part, nAggU8, nSizeU8]
theorem idxW64 (f : Nat → Nat) (k : Nat) (h : k < 64) (W : World) : (Instr.index 224 (.agg (uA 64 f)) (.int .i64 (k : Int))).run Tryz.prog W = .ok (.int .u32 (f k : Int)) W := by
  have h2 : (k : Int) < 64 := by omega
  have h3 := uA_get 64 f k h
  simp [Instr.index, run_underlying Tryz.underlying224, asIntOf, h, h2, h3, go_sem, part, nAggU32, nSizeU32]
theorem idxW8 (f : Nat → Nat) (k : Nat) (h : k < 8) (W : World) : (Instr.index 187 (.agg (uA 8 f)) (.int .i64 (k : Int))).run Tryz.prog W = .ok (.int .u32 (f k : Int)) W := by
  have h2 : (k : Int) < 8 := by omega
  have h3 := uA_get 8 f k h
  simp [Instr.index, run_underlying Tryz.underlying187, asIntOf, h, h2, h3, go_sem, part, nAggU32, nSizeU32]
theorem wexpr (A X D Y : Nat) (hX : X < 4294967296) (hY : Y < 4294967296) : ((((A : Int) + bits BinOp.xor IntKind.u32 (rs X [7, 18] : Int) ((X : Int) / 8)) % 4294967296 + (D : Int)) % 4294967296 + bits BinOp.xor IntKind.u32 (rs Y [17, 19] : Int) ((Y : Int) / 1024)) % 4294967296 = (((A + (rs X [7, 18] ^^^ X / 8) + D + (rs Y [17, 19] ^^^ Y / 1024)) % 4294967296 : Nat) : Int) := by
  have h1 := xor32 (rs X [7, 18]) (X / 8) (rs_lt X hX _) (by omega)
  have h2 := xor32 (rs Y [17, 19]) (Y / 1024) (rs_lt Y hY _) (by omega)
  rw [show ((X : Int) / 8) = ((X / 8 : Nat) : Int) by omega, show ((Y : Int) / 1024) = ((Y / 1024 : Nat) : Int) by omega, h1, h2]
  omega
theorem set_next {F f : Nat → Nat} {i : Nat} (h : ∀ j, j < i → F j = f j) : ∀ j, j < i + 1 → (fun x => if x = i then f i else F x) j = f j := by
  intro j hj
  show (if j = i then f i else F j) = f j
  by_cases e : j = i
  · rw [if_pos e, e]
  · rw [if_neg e]; exact h j (by omega)
/-- The words of a block, some of them made. -/
def wf (b : Nat → Nat) (i j : Nat) : Nat := if j < i then wds b j else 0
set_option maxHeartbeats 4000000 in
set_option maxRecDepth 100000 in
theorem words_any (g : Nat) (b : Nat → Nat) (w : World) (hg : g < w.heap.size) (hB : ∀ j, j < 64 → w.cell? ⟨g, 8 + j, none⟩ = some (.int .u8 (b j : Int))) (hb : ∀ i, i < 64 → b i < 256) :
    Calls Tryz.prog 186 #[.pointer (some ⟨g, 0, none⟩)] w fun e w' => e = .returned (.agg (uA 64 (wds b))) ∧ Below w.heap.size w w' := by
  have S0 := hid_in (WdS.new w)
  rw [← zeroU64] at S0
  have HB1 := hid_in (fun j (hj : j < 64) => ((S0.out.bel.cell (p := (⟨g, 8, none⟩ : Addr).add j) (by rw [add_at]; exact hg)).trans (show w.cell? ((⟨g, 8, none⟩ : Addr).add j) = (rC 64 b)[j]? by rw [add_at, hB j hj, rC_get 64 b j hj])))
  have HY := hid_in hb
  clear hB hb
  go_enter Tryz.func186, Tryz.ntmps186
  go_wp2_with (first | (refine wpList_load_at aggB64 rfl _ rfl ⟨g, 8, none⟩ rfl (rC 64 b) (rC_size 64 b) HB1.out ?_))
  generalize ((w.alloc (.cells _ 224)).alloc (.cells _ 224)) = W0 at *
  go_loopw [13] (fun v wr => ∃ i : Nat, i ≤ 64 ∧ v = .int .i64 (i : Int) ∧ Hid (WdS w wr (pwW b i))) (fun v _ => 64 - (intOf v).toNat)
  case atStart => exact ⟨0, Nat.zero_le _, rfl, S0.out.congr (fun i _ => (pw_zero b i).symm)⟩
  case round =>
    obtain ⟨i, hi, rfl, HW⟩ := hrel
    by_cases hlt : i < 64
    · have q1 : (i : Int) < 64 := by omega
      obtain ⟨k, hk⟩ : ∃ k, i / 4 = k := ⟨_, rfl⟩
      have hk16 : k < 16 := by omega
      have q2 : (i : Int).tdiv 4 = (k : Int) := by rw [Int.tdiv_eq_ediv_of_nonneg (by omega)]; omega
      have w2 : IntKind.i64.wrap (k : Int) = (k : Int) := by rw [IntKind.wrap_i64]; omega
      have e2 : (i : Int) / 4 = (k : Int) := by omega
      have c1 := HW.out.wrd.cell k (by omega)
      have hA := pw_at HY.out i hlt
      rw [hk] at hA
      have hbi := HY.out i hlt
      have HA := hid_in (show bits .or .u32 ((pwW b i k : Int) * 256) (b i : Int) = ((pwW b i k * 256 + b i : Nat) : Int) by
        rw [show ((pwW b i k : Int) * 256) = ((pwW b i k * 256 : Nat) : Int) by omega, or32 _ _ (by omega) (by omega), show pwW b i k * 256 = 2 ^ 8 * pwW b i k by omega, ← Nat.two_pow_add_eq_or_of_lt (by omega : b i < 2 ^ 8)])
      have HST := hid_in (show ∀ j, (if j = k then pwW b i k * 256 + b i else pwW b i j) = pwW b (i + 1) j by
        intro j; rw [pw_step, hk]; by_cases e : j = k
        · rw [if_pos e, if_pos e, e]
        · rw [if_neg e, if_neg e])
      have fz := HW.out.wrd.frozen k
      have hz := HW.out.bel.size
      have gi := idxB64 b i hlt
      have HL := hid_in hlt
      clear hk
      generalize hP : pwW b i k = A at *
      generalize hQ : b i = B at *
      go_wp2_with fail
      refine ⟨⟨i + 1, HL.out, by simp, ?_⟩, by have := HL.out; simp [intOf]; omega⟩
      show WdS _ _ _
      have h1 := HA.out
      rw [h1]
      exact (HW.out.set k (A * 256 + B)).congr (fun j _ => HST.out j)
    · have q1 : ¬ (i : Int) < 64 := by omega
      obtain rfl : i = 64 := by omega
      have S1 := hid_in (show WdS w wr (pwW b 64) from HW.out)
      clear S0 HB1 HW
      go_wp2_with fail
      go_loopw [6] (fun v wr => ∃ i : Nat, 16 ≤ i ∧ i ≤ 64 ∧ v = .int .i64 (i : Int) ∧ Hid (∃ F, WdS w wr F ∧ ∀ j, j < i → F j = wds b j)) (fun v _ => 64 - (intOf v).toNat)
      case atStart => exact ⟨16, by omega, by omega, rfl, _, S1.out, fun j hj => pw_all b j hj⟩
      case round =>
        obtain ⟨i, h16, hi, rfl, HI⟩ := hrel
        clear S1
        by_cases hlt2 : i < 64
        · have HII := hid_in (show 16 ≤ i + 1 ∧ i + 1 ≤ 64 by omega)
          obtain ⟨F, HF, HFw⟩ := HI.out
          obtain ⟨j16, h16'⟩ : ∃ j, i - 16 = j := ⟨_, rfl⟩
          obtain ⟨j15, h15'⟩ : ∃ j, i - 15 = j := ⟨_, rfl⟩
          obtain ⟨j7, h7'⟩ : ∃ j, i - 7 = j := ⟨_, rfl⟩
          obtain ⟨j2, h2'⟩ : ∃ j, i - 2 = j := ⟨_, rfl⟩
          have c16 := HF.wrd.cell j16 (by omega)
          have c15 := HF.wrd.cell j15 (by omega)
          have c7 := HF.wrd.cell j7 (by omega)
          have c2 := HF.wrd.cell j2 (by omega)
          rw [HFw j16 (by omega)] at c16
          rw [HFw j15 (by omega)] at c15
          rw [HFw j7 (by omega)] at c7
          rw [HFw j2 (by omega)] at c2
          have HW2 := wds_high b i h16
          rw [h16', h15', h7', h2'] at HW2
          have hX := wds_lt HY.out j15
          have hY := wds_lt HY.out j2
          have hA := wds_lt HY.out j16
          have hD := wds_lt HY.out j7
          have q5 : (i : Int) < 64 := by omega
          have e15 : (i : Int) - 15 = (j15 : Int) := by omega
          have e2 : (i : Int) - 2 = (j2 : Int) := by omega
          have e16 : (i : Int) - 16 = (j16 : Int) := by omega
          have e7 : (i : Int) - 7 = (j7 : Int) := by omega
          have w15 : IntKind.i64.wrap (j15 : Int) = (j15 : Int) := by rw [IntKind.wrap_i64]; omega
          have w2 : IntKind.i64.wrap (j2 : Int) = (j2 : Int) := by rw [IntKind.wrap_i64]; omega
          have w16 : IntKind.i64.wrap (j16 : Int) = (j16 : Int) := by rw [IntKind.wrap_i64]; omega
          have w7 : IntKind.i64.wrap (j7 : Int) = (j7 : Int) := by rw [IntKind.wrap_i64]; omega
          have q15 : (j15 : Int) < 64 := by omega
          have q2 : (j2 : Int) < 64 := by omega
          have q16 : (j16 : Int) < 64 := by omega
          have q7 : (j7 : Int) < 64 := by omega
          have hs := HF.bel.size
          have fz := HF.wrd.frozen i
          have ci := HF.wrd.cell i hlt2
          obtain ⟨U, hU⟩ : ∃ u, F i = u := ⟨_, rfl⟩
          rw [hU] at ci
          clear hU
          have hHF := hid_in HF; have hHFw := hid_in HFw
          have hwr := HF.wrd.lt
          have HW3 := hid_in HW2
          clear HF HFw HI HW2 h16' h15' h7' h2'
          generalize hgA : wds b j16 = A at *
          generalize hgX : wds b j15 = X at *
          generalize hgD : wds b j7 = D at *
          generalize hgY : wds b j2 = Y at *
          clear hgA hgX hgD hgY
          go_wp2_with fail
          go_region
          go_wp2_with fail
          go_region_held3 (fun w' => w'.cell? ⟨w.heap.size + 1, j16, none⟩ = some (.int .u32 (A : Int)) ∧ w'.cell? ⟨w.heap.size + 1, j7, none⟩ = some (.int .u32 (D : Int))) (first | (go_keep; done) | (refine ⟨?_, ?_⟩ <;> first | assumption | (go_keep; done) | (go_simp; done))) (first | (go_at_call_of 187 (Value.int IntKind.u32 (X : Int)); refine (turned2 X _ _ 7 18 _ hX (by decide) (by decide) ?_ ?_ ?_).mono ?_; (focus (first | omega | (simp; done) | (simp; omega))); (focus (go_simp)); (focus (go_simp)); rintro e w1 ⟨rfl, hb1⟩; have u1 := hb1.size; (try simp at u1); have b1 : Hid (Below wr.heap.size wr w1) := (by first | (refine Below.trans ?_ (hb1.mono ?_); (focus (go_grown)); (focus (first | omega | (simp; done) | (simp; omega)))) | (refine (Below.alloc (Hid.out b2) ?_ _).trans (hb1.mono ?_); (focus (first | omega | (simp; done) | (simp; omega))); (focus (first | omega | (simp; done) | (simp; omega)))) | (exact (Hid.out b2).trans (hb1.mono (by omega)))); have s1 : w.heap.size + 1 < w1.heap.size := (by omega); have y1 := (hb1.cell (p := ⟨w.heap.size + 1, j16, none⟩) (by first | (simp; omega) | omega)).trans (by first | (go_keep; done) | go_simp : _ = some (Value.int .u32 (A : Int))); have z1 := (hb1.cell (p := ⟨w.heap.size + 1, j7, none⟩) (by first | (simp; omega) | omega)).trans (by first | (go_keep; done) | go_simp : _ = some (Value.int .u32 (D : Int))); have x1 := (hb1.cell (p := ⟨w.heap.size + 1, i, none⟩) (by first | (simp; omega) | omega)).trans (by first | (go_keep; done) | go_simp : _ = some (Value.int .u32 (U : Int))); have v1 := (hb1.frozen (p := ⟨w.heap.size + 1, i, none⟩) (by first | (simp; omega) | omega)).trans (by first | assumption | exact (frz_alloc _ _ _ _).trans (by assumption) | exact (frz_alloc _ _ _ _).trans ((frz_alloc _ _ _ _).trans (by assumption)) : _ = false); obtain ⟨hc1, hf1⟩ := bcell hb1) | (go_at_call_of 187 (Value.int IntKind.u32 (Y : Int)); refine (turned2 Y _ _ 17 19 _ hY (by decide) (by decide) ?_ ?_ ?_).mono ?_; (focus (first | omega | (simp; done) | (simp; omega))); (focus (go_simp)); (focus (go_simp)); rintro e w2 ⟨rfl, hb2⟩; have u2 := hb2.size; (try simp at u2); have b2 : Hid (Below wr.heap.size wr w2) := (by first | (refine Below.trans ?_ (hb2.mono ?_); (focus (go_grown)); (focus (first | omega | (simp; done) | (simp; omega)))) | (refine (Below.alloc (Hid.out b1) ?_ _).trans (hb2.mono ?_); (focus (first | omega | (simp; done) | (simp; omega))); (focus (first | omega | (simp; done) | (simp; omega)))) | (exact (Hid.out b1).trans (hb2.mono (by omega)))); have s2 : w.heap.size + 1 < w2.heap.size := (by omega); have y2 := (hb2.cell (p := ⟨w.heap.size + 1, j16, none⟩) (by first | (simp; omega) | omega)).trans (by first | (go_keep; done) | go_simp : _ = some (Value.int .u32 (A : Int))); have z2 := (hb2.cell (p := ⟨w.heap.size + 1, j7, none⟩) (by first | (simp; omega) | omega)).trans (by first | (go_keep; done) | go_simp : _ = some (Value.int .u32 (D : Int))); have x2 := (hb2.cell (p := ⟨w.heap.size + 1, i, none⟩) (by first | (simp; omega) | omega)).trans (by first | (go_keep; done) | go_simp : _ = some (Value.int .u32 (U : Int))); have v2 := (hb2.frozen (p := ⟨w.heap.size + 1, i, none⟩) (by first | (simp; omega) | omega)).trans (by first | assumption | exact (frz_alloc _ _ _ _).trans (by assumption) | exact (frz_alloc _ _ _ _).trans ((frz_alloc _ _ _ _).trans (by assumption)) : _ = false); obtain ⟨hc2, hf2⟩ := bcell hb2))
          all_goals go_wp2_with fail
          all_goals (refine ⟨⟨i + 1, HII.out.1, HII.out.2, by simp, ?_⟩, by have := HII.out; simp [intOf]; omega⟩)
          all_goals (show ∃ F', _ ∧ _)
          all_goals (rw [wexpr A X D Y hX hY, ← HW3.out])
          all_goals (first | refine ⟨_, (hHF.out.later b2.out).set i (wds b i), ?_⟩ | refine ⟨_, (hHF.out.later b1.out).set i (wds b i), ?_⟩)
          all_goals (exact set_next hHFw.out)
        · have q5 : ¬ (i : Int) < 64 := by omega
          obtain rfl : i = 64 := by omega
          obtain ⟨F, HF, HFw⟩ := HI.out
          have G := hid_in (HF.congr (f' := wds b) HFw)
          clear HF HFw HI
          go_wp2_with (first | (refine wpList_load_row rfl 224 _ rfl (w.heap.size + 1) rfl 224 _ (0, 0) _ G.out.wrd Tryz.underlying224 rfl sizeU64 ?_) | (refine wpList_store_row rfl 224 _ _ rfl w.heap.size _ rfl rfl 224 _ G.out.zer sizeU64 (by rw [uA_size, uA_size]) (uA_one _ _) ?_))
          refine bodyPost_ret (v := .agg (uA 64 (wds b))) (results_cell_row Tryz.results186 _ _ w.heap.size 224 _ (0, 0) _ rfl (setRow_at G.out.zer) Tryz.underlying224 rfl sizeU64) rfl ⟨rfl, Below_setRow G.out.bel (Nat.le_refl _)⟩
end Go.Proofs.YtefmmopkikpnhaaGreatDoor

