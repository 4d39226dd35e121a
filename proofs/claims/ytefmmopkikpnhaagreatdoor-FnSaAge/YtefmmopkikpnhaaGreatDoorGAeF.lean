/- What is proved: the contracts of ChnE, ChnF, ChnG, one behind the other. The conditions stand at each theorem. -/
import Derived.Test.YtefmmopkikpnhaaGreatDoorGAeC
import Derived.Test.YtefmmopkikpnhaaGreatDoorGAeD
import Derived.Test.YtefmmopkikpnhaaGreatDoorGAeE
namespace Go.Proofs.YtefmmopkikpnhaaGreatDoor
open Go.RowKit Go.LatT Go.BlockM Go.PlainAid Go.OpnT Go.ApdG Go.BytM Go.AesM
set_option linter.unusedVariables false
set_option linter.unusedSimpArgs false
/-- What may be chained. -/
def Chn (s t u : ByteArray) : Prop := s.size = 16 ∧ t.size = 16 ∧ u.size % 16 = 0 ∧ u.size ≤ 320
instance (s t u : ByteArray) : Decidable (Chn s t u) := by unfold Chn; infer_instance
theorem txt_app (k : Nat) (K : Nat → Nat → Nat) : txt (16 * k) (flatK K) ++ txt 16 (K k) = txt (16 * (k + 1)) (flatK K) := by
  apply bl_inj
  rw [bl_append]
  have e1 : ∀ n f, bl (txt n f) = tl n f := fun n f => bl_of _
  rw [e1, e1, e1, tl_next]
set_option maxHeartbeats 1000000 in
set_option maxRecDepth 100000 in
theorem l6Chain_yes (s t u : ByteArray) (w : World) (h : Chn s t u) :
    Calls Tryz.prog 82 #[.string s, .string t, .string u] w fun e w' => e = .returned (.bool true) ∧ w' = w := by
  obtain ⟨h1, h2, h3, h4⟩ := h
  have a1 : (s.size : Int) = 16 := by omega
  have a2 : (t.size : Int) = 16 := by omega
  have a3 : (u.size : Int) % 16 = 0 := by omega
  have a4 : (u.size : Int) ≤ 320 := by omega
  have a5 : (u.size : Int).tmod 16 = 0 := by rw [Int.tmod_eq_emod_of_nonneg (by omega)]; exact a3
  have a6 : (16 : Int) ∣ (u.size : Int) := by omega
  clear h1 h2 h3 h4
  go_enter Tryz.func82, Tryz.ntmps82
  go_wp2_with fail
  go_ret
  exact ⟨rfl, rfl⟩
set_option maxHeartbeats 1000000 in
set_option maxRecDepth 100000 in
theorem l6Chain_no (s t u : ByteArray) (w : World) (h : ¬ Chn s t u) (hs : (s.size : Int) ≤ 9223372036854775807) (ht : (t.size : Int) ≤ 9223372036854775807) (hu : (u.size : Int) ≤ 9223372036854775807) :
    Calls Tryz.prog 82 #[.string s, .string t, .string u] w fun e w' => e = .returned (.bool false) ∧ w' = w := by
  by_cases h1 : s.size = 16
  · have a1 : (s.size : Int) = 16 := by omega
    by_cases h2 : t.size = 16
    · have a2 : (t.size : Int) = 16 := by omega
      by_cases h3 : u.size % 16 = 0
      · have a3 : (u.size : Int) % 16 = 0 := by omega
        have a5 : (u.size : Int).tmod 16 = 0 := by rw [Int.tmod_eq_emod_of_nonneg (by omega)]; exact a3
        have a6 : (16 : Int) ∣ (u.size : Int) := by omega
        have a4 : ¬ (u.size : Int) ≤ 320 := fun e => h ⟨h1, h2, h3, by omega⟩
        have a7 : (320 : Int) < u.size := by omega
        clear h1 h2 h3 h
        go_enter Tryz.func82, Tryz.ntmps82
        go_wp2_with fail
        go_ret
        exact ⟨rfl, rfl⟩
      · have a3 : ¬ (u.size : Int) % 16 = 0 := by omega
        have a4 : ¬ (16 : Int) ∣ (u.size : Int) := by omega
        have a5 : ((u.size : Int) % 16 == 0) = false := beq_eq_false_iff_ne.2 a3
        clear h1 h2 h3 h
        go_enter Tryz.func82, Tryz.ntmps82
        go_wp2_with fail
        go_ret
        exact ⟨rfl, rfl⟩
    · have a2 : ¬ (t.size : Int) = 16 := by omega
      have a3 : ((t.size : Int) == 16) = false := by simpa using a2
      clear h1 h2 h
      go_enter Tryz.func82, Tryz.ntmps82
      go_wp2_with fail
      go_ret
      exact ⟨rfl, rfl⟩
  · have a2 : ¬ (s.size : Int) = 16 := by omega
    have a3 : ((s.size : Int) == 16) = false := by simpa using a2
    clear h1 h
    go_enter Tryz.func82, Tryz.ntmps82
    go_wp2_with fail
    go_ret
    exact ⟨rfl, rfl⟩
/-- Blocks chained, as a text. -/
def cpT (s t u : ByteArray) : ByteArray := if Chn s t u then txt (16 * (u.size / 16)) (flatK fun i => cp (KS (bn s)) (bn t) (blk u) (i + 1)) else ⟨#[]⟩
set_option maxHeartbeats 4000000 in
set_option maxRecDepth 100000 in
theorem chainPutS (s t u : ByteArray) (w : World) (hs : (s.size : Int) ≤ 9223372036854775807) (ht : (t.size : Int) ≤ 9223372036854775807) (hu : (u.size : Int) ≤ 9223372036854775807) :
    Calls Tryz.prog 108 #[.string s, .string t, .string u] w fun e w' => e = .returned (.string (cpT s t u)) ∧ Below w.heap.size w w' := by
  by_cases h : Chn s t u
  · have E := hid_in (show cpT s t u = txt (16 * (u.size / 16)) (flatK fun i => cp (KS (bn s)) (bn t) (blk u) (i + 1)) by unfold cpT; rw [if_pos h])
    have HC := hid_in h
    have hKb := fun i (_ : i < 11) => KS_by (f := bn s) (fun i _ => bn_lt s i) i
    clear h
    go_enter Tryz.func108, Tryz.ntmps108
    go_wp2_with fail
    refine (l6Chain_yes s t u _ HC.out).mono ?_
    rintro e w0 ⟨rfl, rfl⟩
    go_wp2_with fail
    refine (l6Keys_any s _ HC.out.1).mono ?_
    rintro e w1 ⟨vk, rfl, O1, hb1⟩
    obtain ⟨gk, ck, rfl, hc1, hg1, R1, _⟩ := O1.row (by omega)
    have HR := hid_in R1; have HB1 := hid_in hb1
    clear O1 R1 hb1
    go_wp2_with fail
    go_loopw [1, 8, 9] (fun bv ov iv wr => ∃ (b o : ByteArray) (k x : Nat), bv = .string b ∧ ov = .string o ∧ iv = .int .i64 (x : Int) ∧ x ≤ u.size ∧ b.size = 16 ∧ o.size ≤ 320 ∧ Hid (16 * k = x) ∧ Hid (∀ j, j < 16 → bn b j = cp (KS (bn s)) (bn t) (blk u) k j) ∧ Hid (o = txt (16 * k) (flatK fun i => cp (KS (bn s)) (bn t) (blk u) (i + 1))) ∧ Hid (Below w1.heap.size w1 wr)) (fun _ _ iv _ => u.size - (intOf iv).toNat)
    case atStart => exact ⟨t, ⟨#[]⟩, 0, 0, rfl, rfl, rfl, Nat.zero_le _, HC.out.2.1, by show 0 ≤ 320; omega, rfl, fun j _ => rfl, rfl, Below.refl _ _⟩
    case round =>
      obtain ⟨b, o, k, x, rfl, rfl, rfl, hx, hb16, ho, HX, HBn, HO, HW⟩ := hrel
      by_cases hlt : x < u.size
      · have hc := HC.out
        have hx16 := HX.out
        have h16 : x + 16 ≤ u.size := by have := hc.2.2.1; omega
        have q1 : (x : Int) < u.size := by omega
        have q2 : (x : Int) + 16 ≤ u.size := by omega
        have e1 : (u.extract x (x + 16)).size = 16 := by rw [ext_size _ _ _ (by omega)]; omega
        have E1 := hid_in e1
        have HB16 := hid_in hb16
        have EB := hid_in (show ∀ j, j < 16 → bn (u.extract x (x + 16)) j = blk u k j from fun j hj => by rw [bn_extract u x (x + 16) j (by omega) (by omega)]; unfold blk; rw [hx16])
        have H16 := hid_in h16
        obtain ⟨y, hy⟩ : ∃ y, u.extract x (x + 16) = y := ⟨_, rfl⟩
        have XR := hid_in (fun W => by have := l6Xor_any b y W (by omega) (by rw [← hy, e1]; omega); rw [hb16] at this; exact this)
        obtain ⟨xr, hxr⟩ : ∃ xr, txt 16 (fun i => bn b i ^^^ bn y i) = xr := ⟨_, rfl⟩
        have hxs : xr.size = 16 := by rw [← hxr, txt_size]
        have CE := hid_in (show txt 16 (enc (KS (bn s)) (bn xr) 10) = txt 16 (cp (KS (bn s)) (bn t) (blk u) (k + 1)) from txt_congr fun i hi => by
          refine enc_congr (fun j hj => ?_) 10 i hi
          rw [← hxr, txt_get 16 _ j hj, ← hy, HBn.out j hj, EB.out j hj, Nat.xor_comm]
          exact Nat.mod_eq_of_lt (xor_lt (blk_by u k j hj) (cp_by hKb (fun i _ => bn_lt t i) (blk_by u) k j hj)))
        have XR2 := hid_in (fun W => by have := XR.out W; rw [hxr] at this; exact this)
        have PE := hid_in (fun W (hR : NR W gk 176 (flatK (KS (bn s)))) => by have := l6Put_any gk ck (KS (bn s)) xr W hR hxs hKb; rw [CE.out] at this; exact this)
        obtain ⟨z, hz⟩ : ∃ z, txt 16 (cp (KS (bn s)) (bn t) (blk u) (k + 1)) = z := ⟨_, rfl⟩
        have HZ := hid_in hz
        rw [hz] at PE
        have hz16 : z.size = 16 := by rw [← hz, txt_size]
        clear hc hx16 h16 e1 hxr XR CE hz hb16
        go_wp2_with fail
        rw [hy]
        refine (XR2.out _).mono ?_
        rintro e w2 ⟨rfl, hb2⟩
        have HB2 := hid_in (below_later HW.out hb2)
        clear hb2 HW
        go_wp2_with fail
        refine (PE.out _ (HR.out.later HB2.out)).mono ?_
        rintro e w3 ⟨rfl, hb3⟩
        have HB3 := hid_in (below_later HB2.out hb3)
        clear hb3 HB2
        go_wp2_with fail
        refine ⟨⟨z, o ++ z, k + 1, x + 16, rfl, rfl, by simp, H16.out, hz16, ?_, ?_, ?_, ?_, HB3⟩, by have := H16.out; simp [intOf]; omega⟩
        · rw [ByteArray.size_append, hz16, HO.out, txt_size]; have := H16.out; have := HX.out; have := HC.out.2.2.2; omega
        · show _ = _; have := HX.out; omega
        · show ∀ j, j < 16 → _; intro j hj; rw [← HZ.out, txt_get 16 _ j hj]; exact Nat.mod_eq_of_lt (cp_by hKb (fun i _ => bn_lt t i) (blk_by u) (k + 1) j hj)
        · show _ = _; rw [HO.out, ← HZ.out]; exact txt_app k (fun i => cp (KS (bn s)) (bn t) (blk u) (i + 1))
      · have q1 : ¬ (x : Int) < u.size := by omega
        have HL := hid_in hlt
        go_wp2_with fail
        go_ret
        refine ⟨?_, below_later HB1.out HW.out⟩
        rw [E.out, show u.size / 16 = k by have := HX.out; have := HL.out; omega, ← HO.out]
        rfl
  · have E := hid_in (show cpT s t u = ⟨#[]⟩ by unfold cpT; rw [if_neg h])
    have HC := hid_in h
    clear h
    go_enter Tryz.func108, Tryz.ntmps108
    go_wp2_with fail
    refine (l6Chain_no s t u _ HC.out hs ht hu).mono ?_
    rintro e w0 ⟨rfl, rfl⟩
    go_wp2_with fail
    go_ret
    exact ⟨by rw [E.out]; rfl, Below.refl _ _⟩
end Go.Proofs.YtefmmopkikpnhaaGreatDoor

namespace Go.Proofs.YtefmmopkikpnhaaGreatDoor
open Go.RowKit Go.LatT Go.BlockM Go.PlainAid Go.OpnT Go.ApdG Go.BytM Go.AesM Go.RowQ Go.RegH
set_option linter.unusedVariables false
set_option linter.unusedSimpArgs false
theorem run_chp1 (cap : Array Value) (W : World) : (callFunc 96 cap).run Tryz.prog W = .ok (.enter 96 cap) W := by
  first | kernel_rfl | simp [callFunc, go_sem, Tryz.func96]
set_option maxHeartbeats 2000000 in
set_option maxRecDepth 100000 in
theorem chpI (s t u : ByteArray) (w : World) (hs : s.size ≤ 1048576) (ht : t.size ≤ 1048576) (hu : u.size ≤ 1048576) :
    Calls Tryz.prog 54 #[.string s, .string t, .string u] w fun e w' => e = .returned (.string (cpT s t u)) ∧ Below w.heap.size w w' := by
  have hmf : ∀ (fn : Fn) (first cap : Array Value) (w : World), (Instr.makeFunc fn first cap).run Tryz.prog w = .ok (.func fn first cap) w := fun _ _ _ _ => rfl
  have c0 : (((w.alloc (.cells #[.string s] 9)).alloc (.cells #[.string t] 9)).alloc (.cells #[.string u] 9)).cell? ⟨w.heap.size, 0, none⟩ = some (.string s) := by go_simp
  have c1 : (((w.alloc (.cells #[.string s] 9)).alloc (.cells #[.string t] 9)).alloc (.cells #[.string u] 9)).cell? ⟨w.heap.size + 1, 0, none⟩ = some (.string t) := by go_simp
  have c2 : (((w.alloc (.cells #[.string s] 9)).alloc (.cells #[.string t] 9)).alloc (.cells #[.string u] 9)).cell? ⟨w.heap.size + 1 + 1, 0, none⟩ = some (.string u) := by go_simp
  have l0 : (((w.alloc (.cells #[.string s] 9)).alloc (.cells #[.string t] 9)).alloc (.cells #[.string u] 9)).heap.size = w.heap.size + 1 + 1 + 1 := by simp
  have Z0 : Hid (Below w.heap.size w (((w.alloc (.cells #[.string s] 9)).alloc (.cells #[.string t] 9)).alloc (.cells #[.string u] 9))) := by show Below _ _ _; go_grown
  have C0 := hid_in (fun W (hb : Below (((w.alloc (.cells #[.string s] 9)).alloc (.cells #[.string t] 9)).alloc (.cells #[.string u] 9)).heap.size (((w.alloc (.cells #[.string s] 9)).alloc (.cells #[.string t] 9)).alloc (.cells #[.string u] 9)) W) => ((bcell hb).1 w.heap.size 0 (by rw [l0]; omega)).trans c0)
  have C1 := hid_in (fun W (hb : Below (((w.alloc (.cells #[.string s] 9)).alloc (.cells #[.string t] 9)).alloc (.cells #[.string u] 9)).heap.size (((w.alloc (.cells #[.string s] 9)).alloc (.cells #[.string t] 9)).alloc (.cells #[.string u] 9)) W) => ((bcell hb).1 (w.heap.size + 1) 0 (by rw [l0]; omega)).trans c1)
  have C2 := hid_in (fun W (hb : Below (((w.alloc (.cells #[.string s] 9)).alloc (.cells #[.string t] 9)).alloc (.cells #[.string u] 9)).heap.size (((w.alloc (.cells #[.string s] 9)).alloc (.cells #[.string t] 9)).alloc (.cells #[.string u] 9)) W) => ((bcell hb).1 (w.heap.size + 1 + 1) 0 (by rw [l0]; omega)).trans c2)
  clear c0 c1 c2 l0
  by_cases h : Chn s t u
  · have E := hid_in (show cpT s t u = txt (16 * (u.size / 16)) (flatK fun i => cp (KS (bn s)) (bn t) (blk u) (i + 1)) by unfold cpT; rw [if_pos h])
    go_enter Tryz.func54, Tryz.ntmps54
    go_wp2_with fail
    refine (orEmpty_ok 96 #[.pointer (some ⟨w.heap.size, 0, none⟩), .pointer (some ⟨w.heap.size + 1, 0, none⟩), .pointer (some ⟨w.heap.size + 1 + 1, 0, none⟩)] _ _ (run_chp1 _) (fun W hb => chp_ok s t u _ _ _ W (u.size / 16) h.1 h.2.1 (by have := h.2.2.1; omega) (by have := h.2.2.2; omega) (C0.out W hb) (C1.out W hb) (C2.out W hb))).mono ?_
    rintro e w1 ⟨rfl, hb1⟩
    go_wp2_with fail
    go_ret
    exact ⟨by rw [E.out]; rfl, below_later Z0.out hb1⟩
  · have E := hid_in (show cpT s t u = ⟨#[]⟩ by unfold cpT; rw [if_neg h])
    by_cases h1 : s.size = 16
    · by_cases h2 : t.size = 16
      · have h3 : ¬ (u.size % 16 = 0 ∧ u.size ≤ 320) := fun x => h ⟨h1, h2, x.1, x.2⟩
        go_enter Tryz.func54, Tryz.ntmps54
        go_wp2_with fail
        refine (orEmpty_no 96 #[.pointer (some ⟨w.heap.size, 0, none⟩), .pointer (some ⟨w.heap.size + 1, 0, none⟩), .pointer (some ⟨w.heap.size + 1 + 1, 0, none⟩)] _ (run_chp1 _) (fun W hb => chp_no3 s t u _ _ _ W h1 h2 h3 hu (C0.out W hb) (C1.out W hb) (C2.out W hb))).mono ?_
        rintro e w1 ⟨rfl, hb1⟩
        go_wp2_with fail
        go_ret
        exact ⟨by rw [E.out]; rfl, below_later Z0.out hb1⟩
      · clear h
        go_enter Tryz.func54, Tryz.ntmps54
        go_wp2_with fail
        refine (orEmpty_no 96 #[.pointer (some ⟨w.heap.size, 0, none⟩), .pointer (some ⟨w.heap.size + 1, 0, none⟩), .pointer (some ⟨w.heap.size + 1 + 1, 0, none⟩)] _ (run_chp1 _) (fun W hb => chp_no2 s t u _ _ _ W h1 h2 ht (C0.out W hb) (C1.out W hb) (C2.out W hb))).mono ?_
        rintro e w1 ⟨rfl, hb1⟩
        go_wp2_with fail
        go_ret
        exact ⟨by rw [E.out]; rfl, below_later Z0.out hb1⟩
    · clear h
      go_enter Tryz.func54, Tryz.ntmps54
      go_wp2_with fail
      refine (orEmpty_no 96 #[.pointer (some ⟨w.heap.size, 0, none⟩), .pointer (some ⟨w.heap.size + 1, 0, none⟩), .pointer (some ⟨w.heap.size + 1 + 1, 0, none⟩)] _ (run_chp1 _) (fun W hb => chp_no1 s t u _ _ _ W h1 hs (C0.out W hb) (C1.out W hb) (C2.out W hb))).mono ?_
      rintro e w1 ⟨rfl, hb1⟩
      go_wp2_with fail
      go_ret
      exact ⟨by rw [E.out]; rfl, below_later Z0.out hb1⟩
end Go.Proofs.YtefmmopkikpnhaaGreatDoor

namespace Go.Proofs.YtefmmopkikpnhaaGreatDoor
open Go.RowKit Go.LatT Go.BlockM Go.PlainAid Go.OpnT Go.ApdG Go.BytM Go.AesM Go.RowQ Go.RegH
set_option linter.unusedVariables false
set_option linter.unusedSimpArgs false
end Go.Proofs.YtefmmopkikpnhaaGreatDoor

