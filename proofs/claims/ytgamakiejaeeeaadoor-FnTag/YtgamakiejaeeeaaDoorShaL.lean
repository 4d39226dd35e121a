/- The tag of a text by a key, in the program, as a contract. The conditions stand at each theorem. -/
import Derived.Test.YtgamakiejaeeeaaDoorShaK
namespace Go.Proofs.YtgamakiejaeeeaaDoor
open Go.RowKit Go.LatT Go.BlockM Go.PlainAid Go.OpnT Go.ApdG Go.BytM Go.AesM Go.RowQ
set_option linter.unusedVariables false
set_option linter.unusedSimpArgs false
/-- 64 bytes, and a text behind them. -/
def cat2 (a : Nat → Nat) (t : ByteArray) : Nat → Nat := fun i => if i < 64 then a i else bn t (i - 64)
def inT (key text : ByteArray) : ByteArray := sumT (cat2 (kb key 54) text) (64 + text.size)
/-- The tag of a text by a key. -/
def tgT (key text : ByteArray) : ByteArray := (sumT (cat2 (kb key 92) (inT key text)) (64 + 32)).extract 0 16
theorem inT_size (key text : ByteArray) : (inT key text).size = 32 := sumT_size _ _
theorem cat2_low (a : Nat → Nat) (t : ByteArray) (n i : Nat) (hn : 64 ≤ n) (h : i < 64) : pad (cat2 a t) n i = a i := by
  rw [pad_low (by omega)]; unfold cat2; rw [if_pos h]
theorem cat2_high (a : Nat → Nat) (t : ByteArray) (i : Nat) (h : i < t.size) : pad (cat2 a t) (64 + t.size) (64 + i) = bn t i := by
  rw [pad_low (by omega)]; unfold cat2; rw [if_neg (by omega), show 64 + i - 64 = i by omega]
theorem SW.other {g g1 : Nat} {w W W' : World} {f : Nat → Nat} {n z : Nat} (h : SW g w W f n z) (m : Mv g1 W W') (hg : g ≠ g1) (hg1 : 1 < g1) : SW g W' W' f n z := by
  obtain ⟨b, x⟩ := h.sm
  exact ⟨⟨b, x.sx.block (m.block g x.sx.lt hg), x.lt, x.eq⟩, Mv.refl g W', h.gk.mv m hg1⟩
set_option maxHeartbeats 2000000 in
set_option maxRecDepth 100000 in
theorem tagI_any (s t : ByteArray) (w : World) (hK : GK w) (hs : s.size ≤ 1048576) (ht : t.size ≤ 1048576) :
    Calls Tryd.prog 10 #[.string s, .string t] w fun e w' => e = .returned (.string (if 64 < s.size then ⟨#[]⟩ else tgT s t)) ∧ Below w.heap.size w w' := by
  have HK := hid_in hK
  have hg1 := hK.lt
  clear hK
  by_cases hlt : 64 < s.size
  · have q1 : (64 : Int) < (s.size : Int) := by omega
    rw [if_pos hlt]
    go_enter Tryd.func10, Tryd.ntmps10
    go_wp2_with fail
    go_ret
    exact ⟨rfl, Below.refl _ _⟩
  · have q1 : ¬ (64 : Int) < (s.size : Int) := by omega
    have hle : s.size ≤ 64 := by omega
    rw [if_neg hlt]
    go_enter Tryd.func10, Tryd.ntmps10
    go_wp2_with fail
    refine (keyed_any s 54 w HK.out hle (by decide)).mono ?_
    rintro e w1 ⟨g1, rfl, hg, hb1, hS1⟩
    have S1 := hid_in hS1
    have B1 := hid_in hb1
    have K1 := HK.out.below hb1 hg1
    have hgl1 := hid_in (hS1 _ (fun _ _ => rfl)).lt
    clear hS1 hb1
    go_wp2_with fail
    refine (keyed_any s 92 w1 K1 hle (by decide)).mono ?_
    rintro e w2 ⟨g2, rfl, hgg, hb2, hS2⟩
    have S2 := hid_in hS2
    have B2 := hid_in (below_later B1.out hb2)
    have S1' : Hid (∀ f : Nat → Nat, (∀ i, i < 64 → f i = kb s 54 i) → SW g1 w2 w2 f 64 64) := fun f hf => ((S1.out f hf).later hb2).here
    have hne : g2 ≠ g1 := by have := hgl1.out; omega
    have hg1' : 1 < g1 := by omega
    have hg2' : 1 < g2 := by have := B1.out.size; omega
    have HG := hid_in (show w.heap.size ≤ g1 ∧ w.heap.size ≤ g2 ∧ g2 ≠ g1 from ⟨hg, by have := B1.out.size; omega, hne⟩)
    clear hS2 hb2 S1 hgl1 hg hgg hne
    go_wp2_with fail
    refine (write_any g1 t (pad (cat2 (kb s 54) t) (64 + t.size)) 64 _ hg1' (S1'.out _ (fun i hi => cat2_low _ _ _ _ (by omega) hi)) (by omega) (by omega) (fun i hi => (cat2_high _ _ _ hi).symm)).mono ?_
    rintro e w3 ⟨⟨v, rfl⟩, S3⟩
    have T3 := hid_in S3
    clear S3
    go_wp2_with fail
    refine (end_any g1 (64 + t.size) (cat2 (kb s 54) t) _ hg1' T3.out.here (by omega)).mono ?_
    rintro e w4 ⟨rfl, m4, k4⟩
    have M4 := hid_in (T3.out.mv.trans m4)
    have S4 : Hid (∀ f : Nat → Nat, (∀ i, i < 64 → f i = kb s 92 i) → SW g2 w4 w4 f 64 64) := fun f hf => (S2.out f hf).other M4.out HG.out.2.2 hg1'
    clear m4 k4 S2
    rw [show sumT (cat2 (kb s 54) t) (64 + t.size) = inT s t from rfl]
    go_wp2_with fail
    refine (write_any g2 (inT s t) (pad (cat2 (kb s 92) (inT s t)) (64 + (inT s t).size)) 64 _ hg2' (S4.out _ (fun i hi => cat2_low _ _ _ _ (by omega) hi)) (by omega) (by rw [inT_size]; decide) (fun i hi => (cat2_high _ _ _ hi).symm)).mono ?_
    rintro e w5 ⟨⟨v5, rfl⟩, S5⟩
    have T5 := hid_in S5
    clear S5
    go_wp2_with fail
    refine (end_any g2 (64 + (inT s t).size) (cat2 (kb s 92) (inT s t)) _ hg2' T5.out.here (by rw [inT_size]; decide)).mono ?_
    rintro e w6 ⟨rfl, m6, k6⟩
    have M6 := hid_in (T5.out.mv.trans m6)
    have HT := hid_in (show tgT s t = (sumT (cat2 (kb s 92) (inT s t)) (64 + (inT s t).size)).extract 0 16 by unfold tgT; rw [inT_size])
    have hsz := sumT_size (cat2 (kb s 92) (inT s t)) (64 + (inT s t).size)
    clear m6 k6
    generalize sumT (cat2 (kb s 92) (inT s t)) (64 + (inT s t).size) = R at *
    go_wp2_with fail
    go_ret
    exact ⟨by rw [HT.out]; rfl, (B2.out.trans (M4.out.below B2.out.size HG.out.1)).trans (M6.out.below (Nat.le_trans B2.out.size M4.out.size) HG.out.2.1)⟩
end Go.Proofs.YtgamakiejaeeeaaDoor
