/- The sum of a text, in the specification, as a contract. The conditions stand at each theorem. -/
import Derived.Test.YtgamakiejaeeeaaDoorShaO
namespace Go.Proofs.YtgamakiejaeeeaaDoor
open Go.RowKit Go.LatT Go.BlockM Go.PlainAid Go.OpnT Go.ApdG Go.BytM Go.AesM Go.RowQ
set_option linter.unusedVariables false
set_option linter.unusedSimpArgs false
theorem iniL : uC 8 ini = [.int .u32 1779033703, .int .u32 3144134277, .int .u32 1013904242, .int .u32 2773480762, .int .u32 1359893119, .int .u32 2600822924, .int .u32 528734635, .int .u32 1541459225] := by kernel_rfl
/-- What lies where while blocks are put in. -/
structure HS2 (w W : World) (v b : Value) (N k : Nat) (f : Nat → Nat) : Prop where
  own : OU W w.heap.size v 8 (stt f k)
  pb : PB w W b N f
theorem PB.br {w W : World} {g n cap : Nat} {f : Nat → Nat} (h : PB w W (.slice (some ⟨g, 0, none⟩) n cap) n f) (o : Nat) (ho : o + 64 ≤ n) : BR W g o 64 (fun j => f (o + j)) := by
  obtain ⟨g', cap', e, h1, h2, h3, h4, _⟩ := h.row
  have : g = g' := by simp at e; exact e.1
  subst this
  exact ⟨h3, fun i hi => h4 (o + i) (by omega)⟩
theorem HS2.lt {w W : World} {v b : Value} {N k : Nat} {f : Nat → Nat} (h : HS2 w W v b N k f) : w.heap.size ≤ W.heap.size := h.pb.bel.size
theorem wtx_len (s : Nat → Nat) (i : Nat) : (wtx s i).length = 4 * i := by simp [wtx]
theorem be4 (S : Nat) : u8s (be 4 S) = [.int .u8 ((S / 16777216 % 256 : Nat) : Int), .int .u8 ((S / 65536 % 256 : Nat) : Int), .int .u8 ((S / 256 % 256 : Nat) : Int), .int .u8 ((S % 256 : Nat) : Int)] := by
  simp [be, u8s]
  omega
set_option maxHeartbeats 8000000 in
set_option maxRecDepth 100000 in
theorem l7Sum_any (t : ByteArray) (w : World) (ht : t.size ≤ 3000000) :
    Calls Tryd.prog 15 #[.string t] w fun e w' => e = .returned (.string (sumT (bn t) t.size)) ∧ Below w.heap.size w w' := by
  have HI := hid_in (World.ownsRow_lit (base := w.heap.size) (e := 44) (size := 1) w (uC 8 ini).toArray 8 (Nat.le_refl _) (by unfold maxLen; omega) (by rw [List.size_toArray, uC_len]))
  rw [iniL] at HI
  go_enter Tryd.func15, Tryd.ntmps15
  go_wp2_with fail
  have HIO : Hid (OU (w.alloc (.cells #[.int .u32 1779033703, .int .u32 3144134277, .int .u32 1013904242, .int .u32 2773480762, .int .u32 1359893119, .int .u32 2600822924, .int .u32 528734635, .int .u32 1541459225] 44)) w.heap.size (.slice (some ⟨w.heap.size, 0, none⟩) 8 8) 8 ini) := by
    have h := HI.out
    unfold OU
    rw [iniL]
    exact h
  have HB1 := hid_in (below_box w (.cells #[.int .u32 1779033703, .int .u32 3144134277, .int .u32 1013904242, .int .u32 2773480762, .int .u32 1359893119, .int .u32 2600822924, .int .u32 528734635, .int .u32 1541459225] 44))
  clear HI
  generalize (w.alloc _) = w1 at *
  refine (l7Padded_any t w1 ht).mono ?_
  rintro e w2 ⟨bv, rfl, hp⟩
  have hO2 := owns_below HIO.out hp.bel
  have hp' : PB w w2 bv (padN t.size) (pad (bn t) t.size) := by
    obtain ⟨g, cap, e, h1, h2, h3⟩ := hp.row
    exact ⟨below_later HB1.out hp.bel, g, cap, e, h1, Nat.le_trans HB1.out.size h2, h3⟩
  have HSS := hid_in (show HS2 w w2 (.slice (some ⟨w.heap.size, 0, none⟩) 8 8) bv (padN t.size) 0 (pad (bn t) t.size) from ⟨hO2, hp'⟩)
  have HT := hid_in (show sumT (bn t) t.size = ⟨(wtx (stt (pad (bn t) t.size) (padN t.size / 64)) 8).toArray⟩ from rfl)
  have HF := hid_in (fun i => pad_lt (f := bn t) (n := t.size) (fun i _ => bn_lt t i) i)
  obtain ⟨K, hK⟩ : ∃ K, padN t.size = 64 * K := ⟨(t.size + 8) / 64 + 1, rfl⟩
  have hKl : K ≤ 50000 := by unfold padN at hK; omega
  have hKd : padN t.size / 64 = K := by omega
  rw [hKd] at HT
  rw [hK] at HSS
  generalize pad (bn t) t.size = f at *
  obtain ⟨gb, capb, hbv, hcap, _⟩ := HSS.out.pb.row
  subst hbv
  clear hp hO2 hp' HIO HB1 hKd hK
  go_wp2_with fail
  go_loopw [3, 5] (fun v u wr => ∃ k : Nat, k ≤ K ∧ u = .int .i64 ((64 * k : Nat) : Int) ∧ Hid (HS2 w wr v (.slice (some ⟨gb, 0, none⟩) (64 * K) capb) (64 * K) k f)) (fun _ u _ => 64 * K - (intOf u).toNat)
  case atStart => exact ⟨0, Nat.zero_le _, rfl, HSS⟩
  case round =>
    clear HSS
    obtain ⟨k, hk, rfl, HS⟩ := hrel
    obtain ⟨gh, ch, rfl, hch, hgh, RH, _⟩ := HS.out.own.row (by omega)
    by_cases hlt : k < K
    · have HL := hid_in hlt
      obtain ⟨o, ho⟩ : ∃ o, 64 * k = o := ⟨_, rfl⟩
      obtain ⟨L, hL⟩ : ∃ L, 64 * K = L := ⟨_, rfl⟩
      have HO := hid_in ho
      rw [ho]
      rw [hL] at hcap HS
      rw [hL]
      have hLb : L ≤ 3200000 := by omega
      have q1 : (o : Int) < (L : Int) := by omega
      have q2 : o + 64 ≤ L := by omega
      have q3 : (o : Int) + 64 ≤ (capb : Int) := by omega
      have HLL := hid_in hL
      clear ho hL
      obtain ⟨c, hc⟩ : ∃ c, capb - o = c := ⟨_, rfl⟩
      have w5 : IntKind.i64.wrap ((o : Int) + 64) = (o : Int) + 64 := by rw [IntKind.wrap_i64]; omega
      go_wp2_with fail
      have HC := hid_in hc
      refine (l7Block_any gh ch gb o c (stt f k) (fun j => f (o + j)) wr RH (HS.out.pb.br o q2) (stt_lt f k) (fun j _ => HF.out _) (by omega)).mono ?_
      rintro e w3 ⟨v3, rfl, ho3, hb3⟩
      have HN : Hid (HS2 w w3 v3 (.slice (some ⟨gb, 0, none⟩) L capb) L (k + 1) f) := by
        refine ⟨?_, HS.out.pb.later hb3⟩
        have h := owns_base ho3 HS.out.lt
        unfold OU at *
        rw [show stt f (k + 1) = shm (fun j => f (o + j)) (stt f k) by rw [stt, HO.out]]
        exact h
      clear ho3 hb3 RH HS
      go_wp2_with fail
      have h1 := HO.out; have h2 := HLL.out; have h3 := HL.out
      exact ⟨⟨k + 1, HL.out, by rw [← h1]; simp; omega, by first | exact HN | (rw [h2]; exact HN)⟩, by rw [← h1]; simp [intOf]; omega⟩
    · have q1 : ¬ (((64 * k : Nat) : Int) < ((64 * K : Nat) : Int)) := by omega
      obtain rfl : k = K := by omega
      obtain ⟨w8, hw8⟩ : ∃ x, x = wr := ⟨_, rfl⟩
      subst hw8
      have HRH := hid_in RH
      have HB8 := hid_in HS.out.pb.bel
      have HSL := hid_in (stt_lt f k)
      clear RH HS
      generalize stt f k = s at *
      go_wp2_with fail
      have HU0 : Hid (Below w8.heap.size w8 (w8.alloc (.cells #[] 5)) ∧ (w8.alloc (.cells #[] 5)).ownsRow w8.heap.size 5 1 (.slice (some ⟨w8.heap.size, 0, none⟩) 0 0) (4 * 0) (u8s (wtx s 0))) := ⟨below_box _ _, World.ownsRow_lit w8 #[] 0 (Nat.le_refl _) (Nat.zero_le _) rfl⟩
      go_loopw [6, 7] (fun v u wq => ∃ i : Nat, i ≤ 8 ∧ u = .int .i64 (i : Int) ∧ Hid (Below w8.heap.size w8 wq ∧ wq.ownsRow w8.heap.size 5 1 v (4 * i) (u8s (wtx s i)))) (fun _ u _ => 8 - (intOf u).toNat)
      case atStart => exact ⟨0, Nat.zero_le _, rfl, HU0⟩
      case round =>
        clear HU0
        obtain ⟨i, hi, rfl, HU⟩ := hrel
        by_cases hlt2 : i < 8
        · have HL := hid_in hlt2
          have q2 : (i : Int) < 8 := by omega
          have ch' := (HU.out.1.cell (p := ⟨gh, i, none⟩) HRH.out.lt).trans (HRH.out.cell i hlt2)
          have l1 := Nat.lt_of_lt_of_le HRH.out.lt HU.out.1.size
          have hzz := HU.out.1.size
          have hSi := HSL.out i hlt2
          have HW := hid_in (show u8s (wtx s (i + 1)) = u8s (wtx s i) ++ [.int .u8 ((s i / 16777216 % 256 : Nat) : Int), .int .u8 ((s i / 65536 % 256 : Nat) : Int), .int .u8 ((s i / 256 % 256 : Nat) : Int), .int .u8 ((s i % 256 : Nat) : Int)] by rw [wtx_succ, u8s_append, be4])
          generalize hA : s i = A at *
          clear hA
          have hO4 := hid_in (show ∀ a b c d : Int, ∀ u ∈ [Value.int .u8 a, Value.int .u8 b, Value.int .u8 c, Value.int .u8 d], u.oneCell' = true by intro a b c d u hu; simp at hu; rcases hu with rfl | rfl | rfl | rfl <;> rfl)
          go_wp2_with fail
          go_region_held3 (fun w' => w'.cell? ⟨gh, i, none⟩ = some (.int .u32 (A : Int))) (first | (go_keep; done) | assumption | (go_simp; done)) (first | (refine wpG1 elemB (.tmp 29) (.tmp 53) rfl w8.heap.size _ (4 * i) _ rfl (HU.out.2.alloc _) ⟨wr.heap.size, 0, none⟩ 4 4 [.int .u8 _, .int .u8 _, .int .u8 _, .int .u8 _] rfl rfl (cells_new _ _ _) (hO4.out _ _ _ _) (by omega) (by simp; omega) ?_; intro v3 w3' o3 g3 n3; have O3 := hid_in o3; have G3 := hid_in g3; have z3 := grown_below (B := w8.heap.size) g3 (by simp; omega) (fun g hg => (owns_own HU.out.2 g hg).1); have y0 := (z3.cell (p := ⟨gh, i, none⟩) HRH.out.lt).trans (by first | (go_keep; done) | go_simp : _ = some (Value.int .u32 (A : Int))); clear o3 g3 n3 z3))
          go_wp2_with fail
          refine ⟨⟨i + 1, HL.out, by simp, ?_⟩, by have := HL.out; simp [intOf]; omega⟩
          have hO := O3.out
          rw [show IntKind.u8.wrap ((A : Int) / 16777216) = ((A / 16777216 % 256 : Nat) : Int) by rw [IntKind.wrap_u8]; omega, show IntKind.u8.wrap ((A : Int) / 65536) = ((A / 65536 % 256 : Nat) : Int) by rw [IntKind.wrap_u8]; omega, show IntKind.u8.wrap ((A : Int) / 256) = ((A / 256 % 256 : Nat) : Int) by rw [IntKind.wrap_u8]; omega, show IntKind.u8.wrap (A : Int) = ((A % 256 : Nat) : Int) by rw [IntKind.wrap_u8]; omega, ← HW.out] at hO
          refine ⟨(HU.out.1.drew.alloc hzz _).grown G3.out (by simp; omega) (fun g hg => (owns_own HU.out.2 g hg).1), ?_⟩
          rw [show 4 * (i + 1) = 4 * i + 4 by omega]
          exact hO
        · have q2 : ¬ (i : Int) < 8 := by omega
          obtain rfl : i = 8 := by omega
          have hcv := owns_text HU.out.2 (by rw [wtx_len])
          have HX := hid_in (below_later HB8.out HU.out.1)
          go_wp2_with fail
          go_ret
          exact ⟨by rw [HT.out]; rfl, HX.out⟩
/-- HashSum in the specification. -/
theorem hashS_any (t : ByteArray) (w : World) (ht : t.size ≤ 1048576) :
    Calls Tryd.prog 7 #[.string t] w fun e w' => e = .returned (.string (hshT t)) ∧ Below w.heap.size w w' := by
  go_enter Tryd.func7, Tryd.ntmps7
  go_wp2_with fail
  refine (l7Sum_any t w (by omega)).mono ?_
  rintro e w1 ⟨rfl, hb1⟩
  go_wp2_with fail
  refine (hexS_any (sumT (bn t) t.size) _ (by rw [sumT_size]; decide)).mono ?_
  rintro e w2 ⟨rfl, hb2⟩
  go_wp2_with fail
  go_ret
  exact ⟨rfl, below_later hb1 hb2⟩
end Go.Proofs.YtgamakiejaeeeaaDoor
