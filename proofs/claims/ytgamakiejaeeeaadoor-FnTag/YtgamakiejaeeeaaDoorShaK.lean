/- The sum of a text, in the program, and a sum to which a key was written, as contracts. The conditions stand at each theorem. -/
import Derived.Test.YtgamakiejaeeeaaDoorShaJ
import Derived.Test.YtgamakiejaeeeaaDoorHexB
namespace Go.Proofs.YtgamakiejaeeeaaDoor
open Go.RowKit Go.LatT Go.BlockM Go.PlainAid Go.OpnT Go.ApdG Go.BytM Go.AesM Go.RowQ
set_option linter.unusedVariables false
set_option linter.unusedSimpArgs false
theorem ofInt8 (A : Nat) (h : A < 256) : (BitVec.ofInt 8 (A : Int)).toNat = A := by simp [BitVec.toNat_ofInt]; omega
theorem xor8 (A B : Nat) (hA : A < 256) (hB : B < 256) : bits .xor .u8 (A : Int) (B : Int) = ((A ^^^ B : Nat) : Int) := by
  show IntKind.u8.wrap ((BitVec.ofInt 8 (A : Int) ^^^ BitVec.ofInt 8 (B : Int)).toNat : Int) = _
  rw [BitVec.toNat_xor, ofInt8 A hA, ofInt8 B hB]
  have := xor_lt hA hB
  rw [IntKind.wrap_u8]; omega
theorem pad_low {f : Nat → Nat} {n i : Nat} (h : i < n) : pad f n i = f i := by unfold pad; rw [if_pos h]
theorem SW.new {g : Nat} {W : World} (f : Nat → Nat) (x : SX W g ini (fun _ => 0) 0 0) (k : GK W) : SW g W W f 0 0 :=
  ⟨⟨fun _ => 0, x, fun _ _ => by omega, fun i hi => by simp at hi⟩, Mv.refl g W, k⟩
/-- The sum of a text in figures. -/
def hshT (s : ByteArray) : ByteArray := ⟨(hexT (sumT (bn s) s.size) (sumT (bn s) s.size).size).toArray⟩
theorem sumT_size (f : Nat → Nat) (n : Nat) : (sumT f n).size = 32 := by
  show (Array.size _) = 32
  simp
set_option maxHeartbeats 2000000 in
set_option maxRecDepth 100000 in
theorem hashI_any (s : ByteArray) (w : World) (hK : GK w) (hs : s.size ≤ 1048576) :
    Calls Tryd.prog 8 #[.string s] w fun e w' => e = .returned (.string (hshT s)) ∧ Below w.heap.size w w' := by
  have HK := hid_in hK
  have hg1 := hK.lt
  clear hK
  go_enter Tryd.func8, Tryd.ntmps8
  go_wp2_with fail
  refine (newSum_any w HK.out).mono ?_
  rintro e w1 ⟨rfl, hx, hb1⟩
  have S1 := hid_in (SW.new (pad (bn s) s.size) hx (HK.out.below hb1 hg1))
  have B1 := hid_in hb1
  clear hx hb1
  go_wp2_with fail
  refine (write_any w.heap.size s (pad (bn s) s.size) 0 _ hg1 S1.out (by omega) (by omega) (fun i hi => by rw [Nat.zero_add, pad_low hi])).mono ?_
  rintro e w2 ⟨⟨v, rfl⟩, S2⟩
  rw [Nat.zero_add] at S2
  have S3 := hid_in S2
  clear S2
  go_wp2_with fail
  refine (end_any w.heap.size s.size (bn s) _ hg1 S3.out.here (by omega)).mono ?_
  rintro e w3 ⟨rfl, m3, k3⟩
  have B3 := hid_in (show Below w.heap.size w w3 from B1.out.trans ((S3.out.mv.trans m3).below B1.out.size (Nat.le_refl _)))
  clear m3 k3
  go_wp2_with fail
  refine (hexI_any (sumT (bn s) s.size) _ (by rw [sumT_size]; decide)).mono ?_
  rintro e w4 ⟨rfl, hb4⟩
  have B4 := hid_in (below_later B3.out hb4)
  clear hb4
  go_wp2_with fail
  go_ret
  exact ⟨rfl, B4.out⟩
/-- A key of 64 bytes, each put together with another one. -/
def kb (s : ByteArray) (c : Nat) (i : Nat) : Nat := (if i < s.size then bn s i else 0) ^^^ c
theorem zeroB64 : (#[.int .u8 0, .int .u8 0, .int .u8 0, .int .u8 0, .int .u8 0, .int .u8 0, .int .u8 0, .int .u8 0, .int .u8 0, .int .u8 0, .int .u8 0, .int .u8 0, .int .u8 0, .int .u8 0, .int .u8 0, .int .u8 0, .int .u8 0, .int .u8 0, .int .u8 0, .int .u8 0, .int .u8 0, .int .u8 0, .int .u8 0, .int .u8 0, .int .u8 0, .int .u8 0, .int .u8 0, .int .u8 0, .int .u8 0, .int .u8 0, .int .u8 0, .int .u8 0, .int .u8 0, .int .u8 0, .int .u8 0, .int .u8 0, .int .u8 0, .int .u8 0, .int .u8 0, .int .u8 0, .int .u8 0, .int .u8 0, .int .u8 0, .int .u8 0, .int .u8 0, .int .u8 0, .int .u8 0, .int .u8 0, .int .u8 0, .int .u8 0, .int .u8 0, .int .u8 0, .int .u8 0, .int .u8 0, .int .u8 0, .int .u8 0, .int .u8 0, .int .u8 0, .int .u8 0, .int .u8 0, .int .u8 0, .int .u8 0, .int .u8 0, .int .u8 0] : Array Value) = rC 64 (fun _ => 0) := by kernel_rfl
theorem rC_copy (r : ByteArray) (k : Nat) (hk : k ≤ 64) (hr : k ≤ r.size) :
    ((rC 64 fun _ => 0).toList.take 0 ++ Lib.byteCells (r.data.toList.take k) ++ (rC 64 fun _ => 0).toList.drop (0 + k)).toArray = rC 64 (fun i => if i < k then bn r i else 0) := by
  apply Array.ext_getElem?
  intro i
  have hlen : (Lib.byteCells (r.data.toList.take k)).length = k := by rw [Lib.byteCells_length, List.length_take, r.data.length_toList]; have : r.data.size = r.size := rfl; omega
  rw [List.getElem?_toArray, List.take_zero, List.nil_append]
  by_cases h1 : i < k
  · rw [List.getElem?_append_left (by rw [hlen]; exact h1), byteCells_get r k i h1 hr, rC_get _ _ _ (by omega), if_pos h1]
  · rw [List.getElem?_append_right (by rw [hlen]; omega), hlen, List.getElem?_drop, show 0 + k + (i - k) = i by omega, Array.getElem?_toList]
    by_cases h2 : i < 64
    · rw [rC_get _ _ _ h2, rC_get _ _ _ h2, if_neg h1]
    · rw [Array.getElem?_eq_none (by rw [rC_size]; omega), Array.getElem?_eq_none (by rw [rC_size]; omega)]
/-- A key of 64 bytes, each put together with another one, as a text. -/
def kT (s : ByteArray) (c : Nat) : ByteArray := ⟨((List.range 64).map fun i => UInt8.ofNat (kb s c i)).toArray⟩
theorem kb_lt (s : ByteArray) (c i : Nat) (hc : c < 256) : kb s c i < 256 := by
  have := bn_lt s i
  unfold kb
  refine xor_lt ?_ hc
  split
  · exact this
  · decide
theorem kT_size (s : ByteArray) (c : Nat) : (kT s c).size = 64 := by
  show (Array.size _) = 64
  simp
theorem bn_kT (s : ByteArray) (c i : Nat) (hc : c < 256) (hi : i < 64) : bn (kT s c) i = kb s c i := by
  unfold kT
  rw [bn_of _ _ (by simpa using hi)]
  have := kb_lt s c i hc
  simp
  omega
/-- What a sum to which a key was written is. -/
def KyP (w : World) (s : ByteArray) (c : Nat) (e : Ending) (w' : World) : Prop := ∃ g, e = .returned (.pointer (some ⟨g, 0, none⟩)) ∧ w.heap.size ≤ g ∧ Below w.heap.size w w' ∧ ∀ f : Nat → Nat, (∀ i, i < 64 → f i = kb s c i) → SW g w' w' f 64 64
theorem RB.setRow_of {W : World} {g n : Nat} {t : TypeId} {f f' : Nat → Nat} (h : RB W g n t f) : RB (W.setRow g (rC n f')) g n t f' := setRow_heap W g _ _ t (0, 0) h
set_option maxHeartbeats 2000000 in
set_option maxRecDepth 100000 in
theorem keyed_any (s : ByteArray) (c : Nat) (w : World) (hK : GK w) (hs : s.size ≤ 64) (hc : c < 256) :
    Calls Tryd.prog 20 #[.string s, .int .u8 (c : Int)] w fun e w' => KyP w s c e w' := by
  have R0 := hid_in (RB.new w 64 49 (fun _ => 0))
  have hcp := fun ty => run_copy_cut (P := Tryd.prog) (w.alloc (.cells (rC 64 fun _ => 0) 49)) 26 9 ty 5 w.heap.size 0 64 64 s _ 49 s.size Tryd.underlying26 bits8 R0.out (Nat.min_eq_left hs) (by rw [rC_size]; omega)
  rw [rC_copy s s.size hs (Nat.le_refl _)] at hcp
  have R1 := hid_in (RB.setRow_of (f' := fun i => if i < s.size then bn s i else 0) R0.out)
  have Z1 := hid_in (Below_setRow (g := w.heap.size) (cs := rC 64 fun i => if i < s.size then bn s i else 0) (below_box w (.cells (rC 64 fun _ => 0) 49)) (Nat.le_refl _))
  rw [← zeroB64] at hcp R1 Z1
  have hc3 := hcp 3
  clear hcp R0
  have HK := hid_in hK
  have hg1 := hK.lt
  clear hK
  go_enter Tryd.func20, Tryd.ntmps20
  go_wp2_with fail
  generalize (World.setRow _ w.heap.size (rC 64 fun i => if i < s.size then bn s i else 0)) = W0 at *
  go_loopw [11] (fun u wr => ∃ k : Nat, k ≤ 64 ∧ u = .int .i64 (k : Int) ∧ Hid (RB wr w.heap.size 64 49 (fun i => if i < k then kb s c i else if i < s.size then bn s i else 0)) ∧ Hid (Below w.heap.size w wr)) (fun u _ => 64 - (intOf u).toNat)
  case atStart => exact ⟨0, Nat.zero_le _, rfl, R1.out.congr (fun i _ => by rw [if_neg (Nat.not_lt_zero i)]), Z1⟩
  case round =>
    clear R1 Z1
    obtain ⟨k, hk, rfl, HR, HB⟩ := hrel
    by_cases hlt : k < 64
    · have HL := hid_in hlt
      have q1 : (k : Int) < 64 := by omega
      have ck := HR.out.cell k hlt
      rw [if_neg (Nat.lt_irrefl k)] at ck
      have fk := HR.out.frozen k
      have hgw := HR.out.lt
      obtain ⟨X, hX⟩ : ∃ X, (if k < s.size then bn s k else 0) = X := ⟨_, rfl⟩
      have hX2 : X < 256 := by
        rw [← hX]
        by_cases e : k < s.size
        · rw [if_pos e]; exact bn_lt s k
        · rw [if_neg e]; decide
      rw [hX] at ck
      have HX := hid_in (show kb s c k = X ^^^ c by unfold kb; rw [hX])
      have hx := xor8 X c hX2 hc
      clear hX
      go_wp2_with fail
      refine ⟨⟨k + 1, HL.out, by simp, ?_, HB.out.setCell (Nat.le_refl _) _⟩, by have := HL.out; simp [intOf]; omega⟩
      refine (HR.out.set k (X ^^^ c)).congr (fun i _ => ?_)
      show (if i = k then X ^^^ c else if i < k then kb s c i else if i < s.size then bn s i else 0) = if i < k + 1 then kb s c i else if i < s.size then bn s i else 0
      by_cases e : i = k
      · rw [if_pos e, if_pos (by omega), e, HX.out]
      · by_cases e2 : i < k
        · rw [if_neg e, if_pos e2, if_pos (by omega)]
        · rw [if_neg e, if_neg e2, if_neg (show ¬ i < k + 1 by omega)]
    · have q1 : ¬ (k : Int) < 64 := by omega
      obtain rfl : k = 64 := by omega
      have R2 := hid_in (HR.out.congr (f' := kb s c) (fun i hi => by show (if i < 64 then _ else _) = _; rw [if_pos hi]))
      have K2 := HK.out.below HB.out hg1
      clear HR
      go_wp2_with fail
      refine (newSum_any wr K2).mono ?_
      rintro e w1 ⟨rfl, hx, hb1⟩
      have K3 := hid_in (K2.below hb1 K2.lt)
      have X3 := hid_in hx
      have R3 := hid_in (show RB w1 w.heap.size 64 49 (kb s c) by unfold RB; rw [hb1.block _ R2.out.lt]; exact R2.out)
      have B3 := hid_in (below_later HB.out hb1)
      have hgt := hid_in HB.out.size
      have hcv := run_convert_bytes_back (P := Tryd.prog) w1 26 9 5 ⟨w.heap.size, 0, none⟩ 64 ((List.range 64).map fun i => UInt8.ofNat (kb s c i)) Tryd.underlying26 Tryd.underlying5 Tryd.underlying9 (fun j hj => by
        have hj' : j < 64 := by simpa using hj
        have hb := R3.out.cell j hj'
        rw [add_at, Nat.zero_add, hb]
        have := kb_lt s c j hc
        simp
        omega)
      rw [show ((List.range 64).map fun i => UInt8.ofNat (kb s c i)).length = 64 by simp] at hcv
      rw [show (⟨((List.range 64).map fun i => UInt8.ofNat (kb s c i)).toArray⟩ : ByteArray) = kT s c from rfl] at hcv
      clear hx hb1 K2 R2 HB
      have hg1' := R3.out.lt
      have hsz := kT_size s c
      go_wp2_with fail
      refine (write_any wr.heap.size (kT s c) (fun i => kb s c i) 0 _ (by have := hgt.out; omega) (SW.new _ X3.out K3.out) (by omega) (by omega) (fun i hi => by rw [Nat.zero_add, bn_kT s c i hc (by omega)])).mono ?_
      rintro e w2 ⟨⟨v, rfl⟩, S2⟩
      rw [Nat.zero_add, hsz] at S2
      have S3 := hid_in S2
      clear S2
      go_wp2_with fail
      go_ret
      exact ⟨wr.heap.size, rfl, hgt.out, B3.out.trans (S3.out.mv.below B3.out.size hgt.out), fun f hf => S3.out.here.congr (fun i hi => (hf i hi).symm)⟩
end Go.Proofs.YtgamakiejaeeeaaDoor
