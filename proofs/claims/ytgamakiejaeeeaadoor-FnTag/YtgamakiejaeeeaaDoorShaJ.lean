/- A new sum, and its end, in the program, as contracts. The conditions stand at each theorem. -/
import Derived.Test.YtgamakiejaeeeaaDoorShaI
import Derived.Test.YtgamakiejaeeeaaDoorBytS
namespace Go.Proofs.YtgamakiejaeeeaaDoor
open Go.RowKit Go.LatT Go.BlockM Go.PlainAid Go.OpnT Go.ApdG Go.BytM Go.AesM Go.RowQ
set_option linter.unusedVariables false
set_option linter.unusedSimpArgs false
theorem iniA : uA 8 ini = #[.int .u32 1779033703, .int .u32 3144134277, .int .u32 1013904242, .int .u32 2773480762, .int .u32 1359893119, .int .u32 2600822924, .int .u32 528734635, .int .u32 1541459225] := by kernel_rfl
theorem zeroS (w : World) : (zeroValue 52).run Tryd.prog w = .ok (.agg #[.int .u32 0, .int .u32 0, .int .u32 0, .int .u32 0, .int .u32 0, .int .u32 0, .int .u32 0, .int .u32 0, .int .u8 0, .int .u8 0, .int .u8 0, .int .u8 0, .int .u8 0, .int .u8 0, .int .u8 0, .int .u8 0, .int .u8 0, .int .u8 0, .int .u8 0, .int .u8 0, .int .u8 0, .int .u8 0, .int .u8 0, .int .u8 0, .int .u8 0, .int .u8 0, .int .u8 0, .int .u8 0, .int .u8 0, .int .u8 0, .int .u8 0, .int .u8 0, .int .u8 0, .int .u8 0, .int .u8 0, .int .u8 0, .int .u8 0, .int .u8 0, .int .u8 0, .int .u8 0, .int .u8 0, .int .u8 0, .int .u8 0, .int .u8 0, .int .u8 0, .int .u8 0, .int .u8 0, .int .u8 0, .int .u8 0, .int .u8 0, .int .u8 0, .int .u8 0, .int .u8 0, .int .u8 0, .int .u8 0, .int .u8 0, .int .u8 0, .int .u8 0, .int .u8 0, .int .u8 0, .int .u8 0, .int .u8 0, .int .u8 0, .int .u8 0, .int .u8 0, .int .u8 0, .int .u8 0, .int .u8 0, .int .u8 0, .int .u8 0, .int .u8 0, .int .u8 0, .int .i64 0, .int .u64 0]) w := by kernel_rfl
theorem iniS : (#[.int .u32 1779033703, .int .u32 3144134277, .int .u32 1013904242, .int .u32 2773480762, .int .u32 1359893119, .int .u32 2600822924, .int .u32 528734635, .int .u32 1541459225, .int .u8 0, .int .u8 0, .int .u8 0, .int .u8 0, .int .u8 0, .int .u8 0, .int .u8 0, .int .u8 0, .int .u8 0, .int .u8 0, .int .u8 0, .int .u8 0, .int .u8 0, .int .u8 0, .int .u8 0, .int .u8 0, .int .u8 0, .int .u8 0, .int .u8 0, .int .u8 0, .int .u8 0, .int .u8 0, .int .u8 0, .int .u8 0, .int .u8 0, .int .u8 0, .int .u8 0, .int .u8 0, .int .u8 0, .int .u8 0, .int .u8 0, .int .u8 0, .int .u8 0, .int .u8 0, .int .u8 0, .int .u8 0, .int .u8 0, .int .u8 0, .int .u8 0, .int .u8 0, .int .u8 0, .int .u8 0, .int .u8 0, .int .u8 0, .int .u8 0, .int .u8 0, .int .u8 0, .int .u8 0, .int .u8 0, .int .u8 0, .int .u8 0, .int .u8 0, .int .u8 0, .int .u8 0, .int .u8 0, .int .u8 0, .int .u8 0, .int .u8 0, .int .u8 0, .int .u8 0, .int .u8 0, .int .u8 0, .int .u8 0, .int .u8 0, .int .i64 0, .int .u64 0] : Array Value) = (sL ini (fun _ => 0) 0 0).toArray := by kernel_rfl
set_option maxHeartbeats 4000000 in
set_option maxRecDepth 100000 in
theorem newSum_any (w : World) (hK : GK w) :
    Calls Tryd.prog 16 #[] w fun e w' => e = .returned (.pointer (some ⟨w.heap.size, 0, none⟩)) ∧ SX w' w.heap.size ini (fun _ => 0) 0 0 ∧ Below w.heap.size w w' := by
  have HK : Hid (∀ j, j < 8 → w.cell? ((⟨0, 0, none⟩ : Addr).add j) = (#[.int .u32 1779033703, .int .u32 3144134277, .int .u32 1013904242, .int .u32 2773480762, .int .u32 1359893119, .int .u32 2600822924, .int .u32 528734635, .int .u32 1541459225] : Array Value)[j]?) := fun j hj => by
    rw [← iniA, add_at, Nat.zero_add, hK.st j hj, uA_get 8 ini j hj]
  clear hK
  have hz := zeroS
  go_enter Tryd.func16, Tryd.ntmps16
  go_wp2_with (first | (refine wpList_load_at aggU8 rfl _ rfl ⟨0, 0, none⟩ rfl #[.int .u32 1779033703, .int .u32 3144134277, .int .u32 1013904242, .int .u32 2773480762, .int .u32 1359893119, .int .u32 2600822924, .int .u32 528734635, .int .u32 1541459225] rfl HK.out ?_))
  go_ret
  refine ⟨rfl, ?_, below_box _ _⟩
  show _ = _
  rw [← iniS]
  exact heap_alloc_new w _
theorem be_get : ∀ (k n i : Nat), i < k → (be k n)[i]? = some (UInt8.ofNat (n / 256 ^ (k - 1 - i)))
  | 0, _, _, h => by omega
  | k + 1, n, i, h => by
    rw [be]
    by_cases e : i < k
    · rw [List.getElem?_append_left (by rw [be_len]; exact e), be_get k (n / 256) i e, Nat.div_div_eq_div_mul, ← Nat.pow_succ', show (k - 1 - i).succ = k + 1 - 1 - i by omega]
    · have : i = k := by omega
      subst this
      rw [List.getElem?_append_right (by rw [be_len]; omega), be_len]
      simp
theorem bn_of (l : List UInt8) (i : Nat) (h : i < l.length) : bn ⟨l.toArray⟩ i = l[i].toNat := by
  unfold bn bt
  rw [dif_pos (by show i < (ByteArray.mk l.toArray).size; simpa [ByteArray.size] using h)]
  simp
  rfl
theorem bn_be (k n i : Nat) (h : i < k) : bn ⟨(be k n).toArray⟩ i = n / 256 ^ (k - 1 - i) % 256 := by
  have h2 : i < (be k n).length := by rw [be_len]; exact h
  rw [bn_of _ _ h2]
  have := be_get k n i h
  rw [List.getElem?_eq_getElem h2] at this
  rw [Option.some.inj this]
  simp
/-- The bytes of the first i words. -/
def wtx (s : Nat → Nat) (i : Nat) : List UInt8 := (List.range (4 * i)).map fun j => UInt8.ofNat (wby s j)
theorem ofNat_mod (n : Nat) : UInt8.ofNat (n % 256) = UInt8.ofNat n := by
  apply UInt8.toNat_inj.1
  simp
theorem wtx_succ (s : Nat → Nat) (i : Nat) : wtx s (i + 1) = wtx s i ++ be 4 (s i) := by
  unfold wtx
  rw [show 4 * (i + 1) = 4 * i + 1 + 1 + 1 + 1 by omega, List.range_succ, List.range_succ, List.range_succ, List.range_succ]
  simp only [List.map_append, List.append_assoc, List.map_cons, List.map_nil]
  congr 1
  have e0 : wby s (4 * i) = s i / 256 ^ 3 % 256 := by unfold wby; rw [show 4 * i / 4 = i by omega, show 3 - 4 * i % 4 = 3 by omega]
  have e1 : wby s (4 * i + 1) = s i / 256 ^ 2 % 256 := by unfold wby; rw [show (4 * i + 1) / 4 = i by omega, show 3 - (4 * i + 1) % 4 = 2 by omega]
  have e2 : wby s (4 * i + 1 + 1) = s i / 256 ^ 1 % 256 := by unfold wby; rw [show (4 * i + 1 + 1) / 4 = i by omega, show 3 - (4 * i + 1 + 1) % 4 = 1 by omega]
  have e3 : wby s (4 * i + 1 + 1 + 1) = s i / 256 ^ 0 % 256 := by unfold wby; rw [show (4 * i + 1 + 1 + 1) / 4 = i by omega, show 3 - (4 * i + 1 + 1 + 1) % 4 = 0 by omega]
  rw [e0, e1, e2, e3, ofNat_mod, ofNat_mod, ofNat_mod, ofNat_mod, be_cons, be_cons, be_cons, be_cons]
  simp [be]
theorem str_app (a b : List UInt8) : (⟨a.toArray⟩ : ByteArray) ++ ⟨b.toArray⟩ = ⟨(a ++ b).toArray⟩ := by
  apply bl_inj
  rw [bl_append, bl_of, bl_of, bl_of]
theorem pad_at {f : Nat → Nat} {n : Nat} : pad f n n = 128 := by unfold pad; rw [if_neg (by omega), if_pos rfl]
theorem pad_zero {f : Nat → Nat} {n i : Nat} (h : n < i) (h2 : i < padN n - 8) : pad f n i = 0 := by unfold pad; rw [if_neg (by omega), if_neg (by omega), if_pos h2]
theorem pad_end {f : Nat → Nat} {n i : Nat} (h2 : padN n - 8 ≤ i) : pad f n i = (8 * n) / 256 ^ (padN n - 1 - i) % 256 := by
  have : n < padN n - 8 := by unfold padN; omega
  unfold pad; rw [if_neg (by omega), if_neg (by omega), if_neg (by omega)]
/-- How many bytes are told in a sum. -/
def told (g : Nat) (w : World) : Nat := match w.cell? ⟨g, 73, none⟩ with
  | some (.int _ z) => z.toNat
  | _ => 0
theorem told_of {g : Nat} {w W : World} {f : Nat → Nat} {n z : Nat} (h : SW g w W f n z) : told g W = z := by
  obtain ⟨b, h⟩ := h.sm
  unfold told
  rw [h.sx.cz]
  simp
theorem SW.here {g : Nat} {w W : World} {f : Nat → Nat} {n z : Nat} (h : SW g w W f n z) : SW g W W f n z := ⟨h.sm, Mv.refl g W, h.gk⟩
theorem SW.on {g : Nat} {w W W' : World} {f : Nat → Nat} {n z n' z' : Nat} (h : SW g w W f n z) (h' : SW g W W' f n' z') : SW g w W' f n' z' := ⟨h'.sm, h.mv.trans h'.mv, h'.gk⟩
theorem SW.later {g : Nat} {w W W' : World} {f : Nat → Nat} {n z : Nat} (h : SW g w W f n z) (hb : Below W.heap.size W W') : SW g w W' f n z := by
  obtain ⟨b, x⟩ := h.sm
  exact ⟨⟨b, x.sx.block (hb.block g x.sx.lt), x.lt, x.eq⟩, h.mv.later hb, h.gk.below hb h.gk.lt⟩
theorem SW.congr {g : Nat} {w W : World} {f f' : Nat → Nat} {n z : Nat} (h : SW g w W f n z) (e : ∀ i, i < n → f i = f' i) : SW g w W f' n z := by
  obtain ⟨b, x⟩ := h.sm
  refine ⟨⟨b, x.sx.congr (stt_congr _ (fun i hi => e i (by omega))) (fun _ _ => rfl), x.lt, fun i hi => ?_⟩, h.mv, h.gk⟩
  rw [x.eq i hi, e _ (by omega)]
theorem SW.lt {g : Nat} {w W : World} {f : Nat → Nat} {n z : Nat} (h : SW g w W f n z) : g < W.heap.size := by
  obtain ⟨b, x⟩ := h.sm
  exact x.sx.lt
set_option maxHeartbeats 4000000 in
set_option maxRecDepth 100000 in
theorem end_any (g m : Nat) (f : Nat → Nat) (w : World) (hg1 : 1 < g) (hS : SW g w w (pad f m) m m) (hm : m ≤ 3000000) :
    Calls Tryd.prog 18 #[.pointer (some ⟨g, 0, none⟩)] w fun e w' => e = .returned (.string (sumT f m)) ∧ Mv g w w' ∧ GK w' := by
  obtain ⟨b0, hm0⟩ := hS.sm
  have cz := hm0.sx.cz
  have hgl := hm0.sx.lt
  have e1 : IntKind.u64.wrap (8 * (m : Int)) = ((8 * m : Nat) : Int) := by rw [IntKind.wrap_u64]; omega
  have S0 := hid_in hS
  have HP := hid_in (show padN m = 64 * ((m + 8) / 64 + 1) from rfl)
  clear hS hm0
  go_enter Tryd.func18, Tryd.ntmps18
  go_wp2_with fail
  refine (write_any g ⟨#[128]⟩ (pad f m) m _ hg1 S0.out (by omega) (by decide) (fun i hi => by have hi' : i < 1 := hi; have : i = 0 := by omega
                                                                                               subst this; rw [Nat.add_zero, pad_at]; rfl)).mono ?_
  rintro e w1 ⟨⟨v, rfl⟩, S1⟩
  have S2 := hid_in (show SW g w w1 (pad f m) (m + 1) (m + 1) from S1)
  clear S1 cz hgl S0
  go_wp2_with fail
  obtain ⟨N, hN⟩ : ∃ N, padN m = N := ⟨_, rfl⟩
  have HN := hid_in hN
  have hN1 : N = 64 * ((m + 8) / 64 + 1) := hN.symm.trans HP.out
  have hP := hid_in hN1
  clear hN hN1
  go_loopw [14] (fun _ wr => ∃ p : Nat, m + 1 ≤ p ∧ p ≤ N - 8 ∧ Hid (SW g w wr (pad f m) p p)) (fun _ wr => N - told g wr)
  case atStart => exact ⟨m + 1, Nat.le_refl _, by have := hP.out; omega, S2⟩
  case round =>
    clear S2
    obtain ⟨p, hp1, hp2, HS⟩ := hrel
    obtain ⟨b, hsm⟩ := HS.out.sm
    obtain ⟨h, hh⟩ : ∃ h, p % 64 = h := ⟨_, rfl⟩
    have c72 := hsm.sx.ch
    rw [hh] at c72
    have hgw := hsm.sx.lt
    clear hsm
    by_cases h56 : h = 56
    · subst h56
      have HE := hid_in (show p = N - 8 by have := hP.out; omega)
      go_wp2_with fail
      rw [show (8 * (m : Int)) = ((8 * m : Nat) : Int) by omega]
      refine (bytesOf_any (8 * m) 8 _ (by omega) (by decide)).mono ?_
      rintro e w2 ⟨rfl, hb2⟩
      have S3 := hid_in (HS.out.later hb2)
      clear hb2 c72 hgw
      generalize ((8 * m : Nat) : Int) = M8 at *
      go_wp2_with fail
      refine (write_any g ⟨(be 8 (8 * m)).toArray⟩ (pad f m) p _ hg1 S3.out.here (by have := hP.out; omega) (by show (be 8 (8 * m)).toArray.size ≤ _; rw [List.size_toArray, be_len]; decide) (fun i hi => by
        have hi8 : i < 8 := by have : i < (be 8 (8 * m)).toArray.size := hi
                               rwa [List.size_toArray, be_len] at this
        rw [bn_be 8 _ i hi8, pad_end (by rw [HN.out]; have := HE.out; have := hP.out; omega), HN.out]
        have := HE.out; have := hP.out
        rw [show N - 1 - (p + i) = 8 - 1 - i by omega])).mono ?_
      rintro e w3 ⟨⟨v3, rfl⟩, S4⟩
      have hsz : (⟨(be 8 (8 * m)).toArray⟩ : ByteArray).size = 8 := by show (be 8 (8 * m)).toArray.size = _; rw [List.size_toArray, be_len]
      rw [hsz] at S4
      have S5 := hid_in (S3.out.on S4)
      have hpN : p + 8 = N := by have := HE.out; have := hP.out; omega
      rw [hpN] at S5
      obtain ⟨b5, hm5⟩ := S5.out.sm
      have HR := hid_in hm5.sx.row8
      have hg5 := hm5.sx.lt
      have HL := hid_in (stt_lt (pad f m) (N / 64))
      have HT := hid_in (show sumT f m = ⟨(wtx (stt (pad f m) (N / 64)) 8).toArray⟩ by unfold sumT wtx; rw [HN.out])
      clear S4 S3 hsz hpN hm5 HS
      generalize stt (pad f m) (N / 64) = s at *
      go_wp2_with (first | (refine wpList_load_at aggU8 rfl _ rfl ⟨g, 0, none⟩ rfl (uA 8 s) (uA_size 8 s) HR.out ?_))
      go_loopw [4, 29] (fun v u wr => ∃ i : Nat, i ≤ 8 ∧ v = .string ⟨(wtx s i).toArray⟩ ∧ u = .int .i64 (i : Int) ∧ Hid (SW g w wr (pad f m) N N)) (fun _ u _ => 8 - (intOf u).toNat)
      case atStart => exact ⟨0, Nat.zero_le _, rfl, rfl, S5⟩
      case round =>
        clear S5 hg5
        obtain ⟨i, hi, rfl, rfl, HS⟩ := hrel
        by_cases hlt : i < 8
        · have q2 : (i : Int) < 8 := by omega
          have ix := idxW8 s i hlt
          have HI := hid_in hlt
          have hsi := HL.out i hlt
          have HW := hid_in (wtx_succ s i)
          generalize hS : s i = S at *
          have e4 : IntKind.u64.wrap (S : Int) = (S : Int) := by rw [IntKind.wrap_u64]; omega
          have HA := hid_in (str_app (wtx s i) (be 4 S))
          have hz1 : (⟨(wtx s i).toArray⟩ : ByteArray).size = 4 * i := by show (wtx s i).toArray.size = _; simp [wtx]
          have hz2 : (⟨(be 4 S).toArray⟩ : ByteArray).size = 4 := by show (be 4 S).toArray.size = _; rw [List.size_toArray, be_len]
          have hz3 := hid_in hz1
          have hz4 : (⟨(wtx s i).toArray⟩ : ByteArray).size ≤ 32 := by omega
          go_wp2_with fail
          refine (bytesOf_any S 4 _ (by omega) (by decide)).mono ?_
          rintro e w4 ⟨rfl, hb4⟩
          have S6 := hid_in (HS.out.later hb4)
          clear hb4
          go_wp2_with fail
          have hv : Value.string ({ data := (wtx s i).toArray } ++ { data := (be 4 S).toArray }) = Value.string { data := (wtx s (i + 1)).toArray } := by rw [HW.out, HA.out]
          refine ⟨⟨i + 1, HI.out, hv, by simp, S6⟩, ?_⟩
          have := HI.out; simp [intOf]; omega
        · have q2 : ¬ (i : Int) < 8 := by omega
          obtain rfl : i = 8 := by omega
          go_wp2_with fail
          go_ret
          exact ⟨by rw [HT.out]; rfl, HS.out.mv, HS.out.gk⟩
    · have q1 : ¬ (h : Int) = 56 := by omega
      have HE := hid_in (show p + 1 ≤ N - 8 by have := hP.out; omega)
      have HA := hid_in hp1
      go_wp2_with fail
      have hz0 := pad_zero (f := f) (n := m) (i := p) (by omega) (by rw [HN.out]; have := HE.out; omega)
      refine (write_any g ⟨#[0]⟩ (pad f m) p _ hg1 HS.out.here (by have := hP.out; omega) (by decide) (fun i hi => by have hi' : i < 1 := hi; have : i = 0 := by omega
                                                                                                                      subst this; rw [Nat.add_zero, hz0]; rfl)).mono ?_
      rintro e w2 ⟨⟨v, rfl⟩, S3⟩
      have S4 := hid_in (show SW g w w2 (pad f m) (p + 1) (p + 1) from HS.out.on S3)
      have T1 := hid_in (told_of HS.out)
      have T2 := hid_in (told_of S4.out)
      clear S3 c72 hgw hz0
      go_wp2_with fail
      exact ⟨⟨p + 1, by have := HA.out; omega, HE.out, S4⟩, by rw [T1.out, T2.out]; have := HE.out; have := hP.out; omega⟩
end Go.Proofs.YtgamakiejaeeeaaDoor
