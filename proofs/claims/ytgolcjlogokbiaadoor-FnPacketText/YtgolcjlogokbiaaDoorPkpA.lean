/- Packets as bytes, in the program and in the specification, as contracts, and the walk of the exact law. The conditions stand at each theorem. -/
import Derived.Test.YtgolcjlogokbiaaDoorPakB
import Derived.Test.YtgolcjlogokbiaaDoorFilA
namespace Go.Proofs.YtgolcjlogokbiaaDoor
open Go.RowKit Go.LatT Go.BlockM Go.PlainAid Go.OpnT Go.ApdG Go.BytM
set_option linter.unusedVariables false
set_option linter.unusedSimpArgs false
/-- A packet as bytes. -/
def putL (f t p : Int) (s : ByteArray) : List UInt8 := be 4 f.toNat ++ be 4 t.toNat ++ be 2 p.toNat ++ be 1 s.size ++ bl s
/-- What a packet that is not ok has no bytes. -/
def pputL (f t p : Int) (s : ByteArray) : List UInt8 := if pokB f t p s then putL f t p s else []
theorem pok_out {f t p : Int} {s : ByteArray} (h : pokB f t p s = true) : (0 ≤ f ∧ f ≤ 4294967295) ∧ (0 ≤ t ∧ t ≤ 4294967295) ∧ (0 ≤ p ∧ p ≤ 65535) ∧ s.size ≤ 40 := by
  simp [pokB, callB, inB] at h
  omega
/-- A text of which the size is known. -/
theorem name_be (k n : Nat) : ∃ A : ByteArray, A = ⟨(be k n).toArray⟩ ∧ A.size = k := ⟨_, rfl, by simp [ByteArray.size, be_len]⟩
theorem put_join {A B C D s : ByteArray} {f t p : Nat} (hA : A = ⟨(be 4 f).toArray⟩) (hB : B = ⟨(be 4 t).toArray⟩) (hC : C = ⟨(be 2 p).toArray⟩) (hD : D = ⟨(be 1 s.size).toArray⟩) :
    A ++ B ++ C ++ D ++ s = ⟨(putL f t p s).toArray⟩ := by
  apply bl_inj
  subst hA hB hC hD
  rw [bl_append, bl_append, bl_append, bl_append]
  simp only [bl_of, putL]
  simp [bl]
set_option maxHeartbeats 2000000 in
set_option maxRecDepth 100000 in
theorem l8Put_any (f t p : Nat) (s : ByteArray) (w : World) (hf : f ≤ 4294967295) (ht : t ≤ 4294967295) (hp : p ≤ 65535) (hs : s.size ≤ 40) :
    Calls Tryd.prog 42 #[.agg #[.int .i64 (f : Int), .int .i64 (t : Int), .int .i64 (p : Int), .string s]] w fun e w' => e = .returned (.string ⟨(putL f t p s).toArray⟩) ∧ Below w.heap.size w w' := by
  obtain ⟨A, hA, zA⟩ := name_be 4 f
  obtain ⟨B, hB, zB⟩ := name_be 4 t
  obtain ⟨C, hC, zC⟩ := name_be 2 p
  obtain ⟨D, hD, zD⟩ := name_be 1 s.size
  have J := hid_in (put_join hA hB hC hD)
  have cA := fun w => l8Bytes_any f 4 w (by omega) (by omega)
  have cB := fun w => l8Bytes_any t 4 w (by omega) (by omega)
  have cC := fun w => l8Bytes_any p 2 w (by omega) (by omega)
  have cD := fun w => l8Bytes_any s.size 1 w (by omega) (by omega)
  rw [← hA] at cA; rw [← hB] at cB; rw [← hC] at cC; rw [← hD] at cD
  have KA := hid_in cA; have KB := hid_in cB; have KC := hid_in cC; have KD := hid_in cD
  clear cA cB cC cD hA hB hC hD
  go_enter Tryd.func42, Tryd.ntmps42
  go_wp2_with fail
  refine wp_region_lat (Below.refl _ _) (by kernel_rfl) (by kernel_rfl) ?_
  intro hne hcl
  repeat (go_big_quiet_step (first | (go_at_call_of 35 (Value.int IntKind.i64 (f : Int)); exact lat_of (KA.out _)) | (go_at_call_of 35 (Value.int IntKind.i64 (t : Int)); exact lat_of (KB.out _)) | (go_at_call_of 35 (Value.int IntKind.i64 (p : Int)); exact lat_of (KC.out _)) | (go_at_call 35; exact lat_of (KD.out _))))
  refine wpQuiet_nil ?_
  intro w1 hb1
  obtain ⟨hc1, hf1⟩ := bcell hb1
  clear hne hcl
  go_wp2_with fail
  go_ret
  exact ⟨ret_str J.out, below_later (by go_grown) hb1⟩
set_option maxHeartbeats 2000000 in
set_option maxRecDepth 100000 in
theorem packetPutS (f t p : Int) (s : ByteArray) (w : World) (v : ByteArray) (hv : (⟨(pputL f t p s).toArray⟩ : ByteArray) = v) :
    Calls Tryd.prog 22 #[.agg #[.int .i64 f, .int .i64 t, .int .i64 p, .string s]] w fun e w' => e = .returned (.string v) ∧ Below w.heap.size w w' := by
  have V := hid_in hv
  clear hv
  cases hA : pokB f t p s
  · have A := hid_in hA
    clear hA
    go_enter Tryd.func22, Tryd.ntmps22
    go_wp2_with fail
    refine (packetOkS f t p s _ _ A.out).mono ?_
    rintro e w1 ⟨rfl, hb1⟩
    go_wp2_with fail
    go_ret
    exact ⟨ret_str (by rw [← V.out, pputL, A.out]; rfl), below_later (by go_grown) hb1⟩
  · have A := hid_in hA
    obtain ⟨hf, ht, hp, hs⟩ := pok_out hA
    clear hA
    obtain ⟨F, rfl⟩ := Int.eq_ofNat_of_zero_le hf.1
    obtain ⟨T, rfl⟩ := Int.eq_ofNat_of_zero_le ht.1
    obtain ⟨P, rfl⟩ := Int.eq_ofNat_of_zero_le hp.1
    have K := hid_in (fun w => l8Put_any F T P s w (by omega) (by omega) (by omega) hs)
    go_enter Tryd.func22, Tryd.ntmps22
    go_wp2_with fail
    refine (packetOkS _ _ _ s _ _ A.out).mono ?_
    rintro e w1 ⟨rfl, hb1⟩
    have P1 := (PBox.new w F T P s 30).later hb1
    obtain ⟨l0, k0, k1, k2, k3⟩ := P1
    go_wp2_with fail
    refine (K.out _).mono ?_
    rintro e w2 ⟨rfl, hb2⟩
    go_wp2_with fail
    go_ret
    exact ⟨ret_str (by rw [← V.out, pputL, A.out]; rfl), below_later (below_later (by go_grown) hb1) hb2⟩
theorem wrapU (n : Nat) (h : n < 18446744073709551616) : IntKind.u64.wrap (n : Int) = (n : Int) := by rw [IntKind.wrap_u64]; omega
set_option maxHeartbeats 2000000 in
set_option maxRecDepth 100000 in
theorem packetPutI (f t p : Int) (s : ByteArray) (w : World) (v : ByteArray) (hv : (⟨(pputL f t p s).toArray⟩ : ByteArray) = v) :
    Calls Tryd.prog 21 #[.agg #[.int .i64 f, .int .i64 t, .int .i64 p, .string s]] w fun e w' => e = .returned (.string v) ∧ Below w.heap.size w w' := by
  have V := hid_in hv
  clear hv
  cases hA : pokB f t p s
  · have A := hid_in hA
    clear hA
    go_enter Tryd.func21, Tryd.ntmps21
    go_wp2_with fail
    refine (packetOkI f t p s _ _ A.out).mono ?_
    rintro e w1 ⟨rfl, hb1⟩
    go_wp2_with fail
    go_ret
    exact ⟨ret_str (by rw [← V.out, pputL, A.out]; rfl), below_later (by go_grown) hb1⟩
  · have OK := hid_in hA
    obtain ⟨hf, ht, hp, hs⟩ := pok_out hA
    clear hA
    obtain ⟨F, rfl⟩ := Int.eq_ofNat_of_zero_le hf.1
    obtain ⟨T, rfl⟩ := Int.eq_ofNat_of_zero_le ht.1
    obtain ⟨P, rfl⟩ := Int.eq_ofNat_of_zero_le hp.1
    obtain ⟨A, hA, zA⟩ := name_be 4 F
    obtain ⟨B, hB, zB⟩ := name_be 4 T
    obtain ⟨C, hC, zC⟩ := name_be 2 P
    obtain ⟨D, hD, zD⟩ := name_be 1 s.size
    have J := hid_in (put_join hA hB hC hD)
    have cA := fun w => bytesOf_any F 4 w (by omega) (by omega)
    have cB := fun w => bytesOf_any T 4 w (by omega) (by omega)
    have cC := fun w => bytesOf_any P 2 w (by omega) (by omega)
    have cD := fun w => bytesOf_any s.size 1 w (by omega) (by omega)
    rw [← hA] at cA; rw [← hB] at cB; rw [← hC] at cC; rw [← hD] at cD
    have KA := hid_in cA; have KB := hid_in cB; have KC := hid_in cC; have KD := hid_in cD
    clear cA cB cC cD hA hB hC hD
    have u1 := wrapU F (by omega); have u2 := wrapU T (by omega); have u3 := wrapU P (by omega); have u4 := wrapU s.size (by omega)
    go_enter Tryd.func21, Tryd.ntmps21
    go_wp2_with fail
    refine (packetOkI _ _ _ s _ _ OK.out).mono ?_
    rintro e w0 ⟨rfl, hb0⟩
    have P1 := (PBox.new w F T P s 30).later hb0
    have Q1 := hid_in P1
    have Z0 := hid_in (below_later (below_box w _) hb0)
    obtain ⟨l0, k0, k1, k2, k3⟩ := P1
    clear hb0
    go_wp2_with fail
    refine wp_region_lat (Below.refl _ _) (by kernel_rfl) (by kernel_rfl) ?_
    intro hne hcl
    repeat (go_big_quiet_step (first | (go_at_call_of 31 (Value.int IntKind.u64 (F : Int)); exact lat_of (KA.out _)) | (go_at_call 31; exact lat_of (KB.out _))))
    refine wpQuiet_nil ?_
    intro w1 hb1
    obtain ⟨hc1, hf1⟩ := bcell hb1
    clear hne hcl
    have P2 := Q1.out.later hb1
    clear l0 k0 k1 k2 k3 hc1 hf1
    obtain ⟨l0, k0, k1, k2, k3⟩ := P2
    have Z1 := hid_in (below_later Z0.out hb1)
    clear hb1
    go_wp2_with fail
    refine wp_region_lat (Below.refl _ _) (by kernel_rfl) (by kernel_rfl) ?_
    intro hne hcl
    repeat (go_big_quiet_step (first | (go_at_call_of 31 (Value.int IntKind.u64 (P : Int)); exact lat_of (KC.out _)) | (go_at_call 31; exact lat_of (KD.out _))))
    refine wpQuiet_nil ?_
    intro w1 hb1
    obtain ⟨hc1, hf1⟩ := bcell hb1
    clear hne hcl
    go_wp2_with fail
    go_ret
    exact ⟨ret_str (by rw [← V.out, pputL, OK.out]; exact J.out), below_later Z1.out hb1⟩
end Go.Proofs.YtgolcjlogokbiaaDoor
