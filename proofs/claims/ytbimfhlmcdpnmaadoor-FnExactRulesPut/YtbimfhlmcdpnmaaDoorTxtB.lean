/- Addresses as texts, in the program and in the specification, as contracts. The conditions stand at each theorem. -/
import Derived.Test.YtbimfhlmcdpnmaaDoorTxtA
import Derived.Test.YtbimfhlmcdpnmaaDoorShelf
import Derived.Lib.LaidTab
namespace Go.Proofs.YtbimfhlmcdpnmaaDoor
open Go.RowKit Go.LatT Go.BlockM Go.Shelf Go.Sort
set_option linter.unusedVariables false
set_option linter.unusedSimpArgs false
/-- An address as a text. -/
def addrT (a : Int) : List UInt8 := decI (a / 16777216) ++ [46] ++ decI (a / 65536 % 256) ++ [46] ++ decI (a / 256 % 256) ++ [46] ++ decI (a % 256)
set_option maxHeartbeats 1000000 in
set_option maxRecDepth 100000 in
theorem l1Text_any (a : Int) (w : World) (h0 : 0 ≤ a) (h1 : a ≤ 4294967295) :
    Calls Tryd.prog 57 #[.int .i64 a] w fun e w' => e = .returned (.string ⟨(addrT a).toArray⟩) ∧ Below w.heap.size w w' := by
  have L1 : (decI (a / 16777216)).length ≤ 100 := Nat.le_trans (decI_len 12 _ (by omega) (by omega)) (by omega)
  have L2 : (decI (a / 65536 % 256)).length ≤ 100 := Nat.le_trans (decI_len 12 _ (by omega) (by omega)) (by omega)
  have L3 : (decI (a / 256 % 256)).length ≤ 100 := Nat.le_trans (decI_len 12 _ (by omega) (by omega)) (by omega)
  have L4 : (decI (a % 256)).length ≤ 100 := Nat.le_trans (decI_len 12 _ (by omega) (by omega)) (by omega)
  go_enter Tryd.func57, Tryd.ntmps57
  go_wp2_with fail
  refine (dec_any (a / 16777216) _ (by omega) (by omega)).mono ?_
  rintro e w1 ⟨rfl, hb1⟩
  go_wp2_with fail
  refine (dec_any (a / 65536 % 256) _ (by omega) (by omega)).mono ?_
  rintro e w2 ⟨rfl, hb2⟩
  go_wp2_with fail
  refine (dec_any (a / 256 % 256) _ (by omega) (by omega)).mono ?_
  rintro e w3 ⟨rfl, hb3⟩
  go_wp2_with fail
  refine (dec_any (a % 256) _ (by omega) (by omega)).mono ?_
  rintro e w4 ⟨rfl, hb4⟩
  go_wp2_with fail
  go_ret
  exact ⟨ret_str (by simp only [bytes_append, addrT]; simp), below_later (below_later (below_later hb1 hb2) hb3) hb4⟩
/-- The table of powers of ten, laid. -/
def Pow (w : World) : Prop := Lib.TabIs Tryd.prog w "internal/strconv.uint64pow10" .u64 Lib.pow10Tab
theorem below_grow (w : World) (k : Nat) (os : Array Obj) : Below w.heap.size w (grow (w.drewN k) os) := by
  refine ⟨rfl, rfl, rfl, by simp [grow], fun i hi => ?_⟩
  show (w.heap ++ os)[i]? = w.heap[i]?
  rw [Array.getElem?_append_left hi]
theorem Pow.later {w w' : World} (h : Pow w) (hb : Below w.heap.size w w') : Pow w' := by
  unfold Pow Lib.TabIs at *
  cases hg : Tryd.prog.globalNamed "internal/strconv.uint64pow10" with
  | none => simp [World.var?, hg] at h
  | some g =>
    have hlt : g < w.heap.size := by
      rcases Nat.lt_or_ge g w.heap.size with h' | h'
      · exact h'
      · simp [World.var?, hg, Array.getElem?_eq_none h'] at h
    rw [← h]
    simp only [World.var?, hg, Option.bind_some, hb.block g hlt]
theorem and255 (x : Int) (h0 : 0 ≤ x) (h1 : x < 4611686018427387904) : bits .and .i64 x 255 = x % 256 := by
  obtain ⟨A, rfl⟩ := Int.eq_ofNat_of_zero_le h0
  have e : bits .and .i64 (A : Int) 255 = ((A &&& 255 : Nat) : Int) := by
    show IntKind.i64.wrap ((BitVec.ofInt 64 (A : Int) &&& BitVec.ofInt 64 255).toNat : Int) = _
    rw [BitVec.toNat_and, ofInt_u64 A (by omega), show (BitVec.ofInt 64 255).toNat = 255 from rfl]
    have : A &&& 255 ≤ 255 := Nat.and_le_right
    exact wrap_i64_small _ (by omega) (by omega)
  rw [e, show (255 : Nat) = 2 ^ 8 - 1 from rfl, Nat.and_two_pow_sub_one_eq_mod]
  rfl
set_option maxHeartbeats 1000000 in
set_option maxRecDepth 100000 in
theorem itoa_any (n : Int) (w : World) (h0 : 0 ≤ n) (h1 : n ≤ 1000000) (hp : Pow w) :
    Calls Tryd.prog 19 #[.int .i64 n] w fun e w' => e = .returned (.string ⟨(decI n).toArray⟩) ∧ Below w.heap.size w w' := by
  refine (Tryd.strconv_Itoa n (by omega) (by omega) w hp).mono ?_
  rintro e w' ⟨rfl, k, os, rfl⟩
  exact ⟨by rw [show Lib.itoa n = decI n by unfold Lib.itoa decI; rw [if_neg (by omega)]], below_grow _ _ _⟩
set_option maxHeartbeats 2000000 in
set_option maxRecDepth 100000 in
theorem text_any (a : Int) (w : World) (h0 : 0 ≤ a) (h1 : a ≤ 4294967295) (hp : Pow w) :
    Calls Tryd.prog 65 #[.int .i64 a] w fun e w' => e = .returned (.string ⟨(addrT a).toArray⟩) ∧ Below w.heap.size w w' := by
  have HP := hid_in hp
  clear hp
  go_enter Tryd.func65, Tryd.ntmps65
  go_wp2_with fail
  refine wp_loop_rounds 5 ?_
  rw [rounds_succ]
  go_wp2_with fail
  rw [and255 (a / 16777216) (by omega) (by omega), show (a / 16777216) % 256 = a / 16777216 by omega]
  refine (itoa_any (a / 16777216) _ (by omega) (by omega) (HP.out.later (below_box _ _))).mono ?_
  rintro e w1 ⟨rfl, hb1⟩
  obtain ⟨hc1, hf1⟩ := bcell hb1
  have p10 : w1.cell? ⟨w.heap.size, 0, none⟩ = some (.string ⟨#[]⟩) := by rw [hc1 _ _ (by simp)]; go_simp
  have f10 : w1.frozen? ⟨w.heap.size, 0, none⟩ = false := by rw [hf1 _ _ (by simp)]; go_simp
  have p11 : w1.cell? ⟨w.heap.size, 1, none⟩ = some (.string ⟨#[]⟩) := by rw [hc1 _ _ (by simp)]; go_simp
  have f11 : w1.frozen? ⟨w.heap.size, 1, none⟩ = false := by rw [hf1 _ _ (by simp)]; go_simp
  have p12 : w1.cell? ⟨w.heap.size, 2, none⟩ = some (.string ⟨#[]⟩) := by rw [hc1 _ _ (by simp)]; go_simp
  have f12 : w1.frozen? ⟨w.heap.size, 2, none⟩ = false := by rw [hf1 _ _ (by simp)]; go_simp
  have p13 : w1.cell? ⟨w.heap.size, 3, none⟩ = some (.string ⟨#[]⟩) := by rw [hc1 _ _ (by simp)]; go_simp
  have f13 : w1.frozen? ⟨w.heap.size, 3, none⟩ = false := by rw [hf1 _ _ (by simp)]; go_simp
  have m1 : w.heap.size < w1.heap.size := by have := hb1.size; simp at this; omega
  have Z1 : Hid (Below w.heap.size w (w1.setCell ⟨w.heap.size, 0, none⟩ (.string ⟨(decI (a / 16777216)).toArray⟩))) := by show Below _ _ _; exact (below_later (below_box w _) hb1).setCell (Nat.le_refl _) _
  clear hc1 hf1 hb1
  go_wp2_with fail
  rw [rounds_succ]
  go_wp2_with fail
  rw [and255 (a / 65536) (by omega) (by omega)]
  refine (itoa_any (a / 65536 % 256) _ (by omega) (by omega) (HP.out.later (Z1.out))).mono ?_
  rintro e w2 ⟨rfl, hb2⟩
  obtain ⟨hc2, hf2⟩ := bcell hb2
  have p20 : w2.cell? ⟨w.heap.size, 0, none⟩ = some (.string ⟨(decI (a / 16777216)).toArray⟩) := by rw [hc2 _ _ (by simp; omega)]; go_simp
  have f20 : w2.frozen? ⟨w.heap.size, 0, none⟩ = false := by rw [hf2 _ _ (by simp; omega)]; go_simp
  have p21 : w2.cell? ⟨w.heap.size, 1, none⟩ = some (.string ⟨#[]⟩) := by rw [hc2 _ _ (by simp; omega)]; go_simp
  have f21 : w2.frozen? ⟨w.heap.size, 1, none⟩ = false := by rw [hf2 _ _ (by simp; omega)]; go_simp
  have p22 : w2.cell? ⟨w.heap.size, 2, none⟩ = some (.string ⟨#[]⟩) := by rw [hc2 _ _ (by simp; omega)]; go_simp
  have f22 : w2.frozen? ⟨w.heap.size, 2, none⟩ = false := by rw [hf2 _ _ (by simp; omega)]; go_simp
  have p23 : w2.cell? ⟨w.heap.size, 3, none⟩ = some (.string ⟨#[]⟩) := by rw [hc2 _ _ (by simp; omega)]; go_simp
  have f23 : w2.frozen? ⟨w.heap.size, 3, none⟩ = false := by rw [hf2 _ _ (by simp; omega)]; go_simp
  have m2 : w.heap.size < w2.heap.size := by have := hb2.size; simp at this; omega
  have Z2 : Hid (Below w.heap.size w (w2.setCell ⟨w.heap.size, 1, none⟩ (.string ⟨(decI (a / 65536 % 256)).toArray⟩))) := by show Below _ _ _; exact (below_later Z1.out hb2).setCell (Nat.le_refl _) _
  clear hc2 hf2 hb2 p10 f10 p11 f11 p12 f12 p13 f13
  go_wp2_with fail
  rw [rounds_succ]
  go_wp2_with fail
  rw [and255 (a / 256) (by omega) (by omega)]
  refine (itoa_any (a / 256 % 256) _ (by omega) (by omega) (HP.out.later (Z2.out))).mono ?_
  rintro e w3 ⟨rfl, hb3⟩
  obtain ⟨hc3, hf3⟩ := bcell hb3
  have p30 : w3.cell? ⟨w.heap.size, 0, none⟩ = some (.string ⟨(decI (a / 16777216)).toArray⟩) := by rw [hc3 _ _ (by simp; omega)]; go_simp
  have f30 : w3.frozen? ⟨w.heap.size, 0, none⟩ = false := by rw [hf3 _ _ (by simp; omega)]; go_simp
  have p31 : w3.cell? ⟨w.heap.size, 1, none⟩ = some (.string ⟨(decI (a / 65536 % 256)).toArray⟩) := by rw [hc3 _ _ (by simp; omega)]; go_simp
  have f31 : w3.frozen? ⟨w.heap.size, 1, none⟩ = false := by rw [hf3 _ _ (by simp; omega)]; go_simp
  have p32 : w3.cell? ⟨w.heap.size, 2, none⟩ = some (.string ⟨#[]⟩) := by rw [hc3 _ _ (by simp; omega)]; go_simp
  have f32 : w3.frozen? ⟨w.heap.size, 2, none⟩ = false := by rw [hf3 _ _ (by simp; omega)]; go_simp
  have p33 : w3.cell? ⟨w.heap.size, 3, none⟩ = some (.string ⟨#[]⟩) := by rw [hc3 _ _ (by simp; omega)]; go_simp
  have f33 : w3.frozen? ⟨w.heap.size, 3, none⟩ = false := by rw [hf3 _ _ (by simp; omega)]; go_simp
  have m3 : w.heap.size < w3.heap.size := by have := hb3.size; simp at this; omega
  have Z3 : Hid (Below w.heap.size w (w3.setCell ⟨w.heap.size, 2, none⟩ (.string ⟨(decI (a / 256 % 256)).toArray⟩))) := by show Below _ _ _; exact (below_later Z2.out hb3).setCell (Nat.le_refl _) _
  clear hc3 hf3 hb3 p20 f20 p21 f21 p22 f22 p23 f23
  go_wp2_with fail
  rw [rounds_succ]
  go_wp2_with fail
  rw [and255 (a) (by omega) (by omega)]
  refine (itoa_any (a % 256) _ (by omega) (by omega) (HP.out.later (Z3.out))).mono ?_
  rintro e w4 ⟨rfl, hb4⟩
  obtain ⟨hc4, hf4⟩ := bcell hb4
  have p40 : w4.cell? ⟨w.heap.size, 0, none⟩ = some (.string ⟨(decI (a / 16777216)).toArray⟩) := by rw [hc4 _ _ (by simp; omega)]; go_simp
  have f40 : w4.frozen? ⟨w.heap.size, 0, none⟩ = false := by rw [hf4 _ _ (by simp; omega)]; go_simp
  have p41 : w4.cell? ⟨w.heap.size, 1, none⟩ = some (.string ⟨(decI (a / 65536 % 256)).toArray⟩) := by rw [hc4 _ _ (by simp; omega)]; go_simp
  have f41 : w4.frozen? ⟨w.heap.size, 1, none⟩ = false := by rw [hf4 _ _ (by simp; omega)]; go_simp
  have p42 : w4.cell? ⟨w.heap.size, 2, none⟩ = some (.string ⟨(decI (a / 256 % 256)).toArray⟩) := by rw [hc4 _ _ (by simp; omega)]; go_simp
  have f42 : w4.frozen? ⟨w.heap.size, 2, none⟩ = false := by rw [hf4 _ _ (by simp; omega)]; go_simp
  have p43 : w4.cell? ⟨w.heap.size, 3, none⟩ = some (.string ⟨#[]⟩) := by rw [hc4 _ _ (by simp; omega)]; go_simp
  have f43 : w4.frozen? ⟨w.heap.size, 3, none⟩ = false := by rw [hf4 _ _ (by simp; omega)]; go_simp
  have m4 : w.heap.size < w4.heap.size := by have := hb4.size; simp at this; omega
  have Z4 : Hid (Below w.heap.size w (w4.setCell ⟨w.heap.size, 3, none⟩ (.string ⟨(decI (a % 256)).toArray⟩))) := by show Below _ _ _; exact (below_later Z3.out hb4).setCell (Nat.le_refl _) _
  clear hc4 hf4 hb4 p30 f30 p31 f31 p32 f32 p33 f33
  go_wp2_with fail
  rw [rounds_succ]
  go_wp2_with fail
  have L1 : (decI (a / 16777216)).length ≤ 100 := Nat.le_trans (decI_len 12 _ (by omega) (by omega)) (by omega)
  have L2 : (decI (a / 65536 % 256)).length ≤ 100 := Nat.le_trans (decI_len 12 _ (by omega) (by omega)) (by omega)
  have L3 : (decI (a / 256 % 256)).length ≤ 100 := Nat.le_trans (decI_len 12 _ (by omega) (by omega)) (by omega)
  have L4 : (decI (a % 256)).length ≤ 100 := Nat.le_trans (decI_len 12 _ (by omega) (by omega)) (by omega)
  have ej : Lib.join (([⟨(decI (a / 16777216)).toArray⟩, ⟨(decI (a / 65536 % 256)).toArray⟩, ⟨(decI (a / 256 % 256)).toArray⟩, ⟨(decI (a % 256)).toArray⟩] : List ByteArray).map (·.data.toList)) [46] = addrT a := by simp [Lib.join, List.intercalate, addrT]
  have hj := Tryd.strings_Join w.heap.size 0 4 [⟨(decI (a / 16777216)).toArray⟩, ⟨(decI (a / 65536 % 256)).toArray⟩, ⟨(decI (a / 256 % 256)).toArray⟩, ⟨(decI (a % 256)).toArray⟩] ⟨#[46]⟩ (w4.setCell ⟨w.heap.size, 3, none⟩ (.string ⟨(decI (a % 256)).toArray⟩)) (by
      intro j x hx
      rcases j with _ | _ | _ | _ | j
      · simp at hx; subst hx; go_simp
      · simp at hx; subst hx; go_simp
      · simp at hx; subst hx; go_simp
      · simp at hx; subst hx; go_simp
      · simp at hx) (by simp; omega) (by simp) (by simp) (by
      show (Lib.join _ [46]).length ≤ _
      rw [ej]
      simp [addrT]
      omega)
  change Calls Tryd.prog 22 #[.slice (some ⟨w.heap.size, 0, none⟩) 4 4, .string ⟨#[46]⟩] _ (fun e w' => e = .returned (.string ⟨(Lib.join _ [46]).toArray⟩) ∧ _) at hj
  rw [ej] at hj
  refine hj.mono ?_
  rintro e w5 ⟨rfl, hb5⟩
  go_wp2_with fail
  go_ret
  exact ⟨rfl, below_later Z4.out hb5⟩
set_option maxHeartbeats 1000000 in
set_option maxRecDepth 100000 in
theorem addrTextI (a : Int) (w : World) (hp : Pow w) (v : List UInt8) (hv : (if inB a 0 4294967295 then addrT a else []) = v) :
    Calls Tryd.prog 45 #[.int .i64 a] w fun e w' => e = .returned (.string ⟨v.toArray⟩) ∧ Below w.heap.size w w' := by
  have V := hid_in hv; have HP := hid_in hp
  clear hv hp
  cases hA : inB a 0 4294967295
  · have A := hid_in hA
    clear hA
    go_enter Tryd.func45, Tryd.ntmps45
    go_wp2_with fail
    refine (addrOk a _ _ A.out).mono ?_
    rintro e w' ⟨rfl, rfl⟩
    go_wp2_with fail
    go_ret
    exact ⟨ret_str (by rw [← V.out, A.out]; rfl), Below.refl _ _⟩
  · have A := hid_in hA
    obtain ⟨a0, a1⟩ : 0 ≤ a ∧ a ≤ 4294967295 := by simpa [inB] using hA
    clear hA
    go_enter Tryd.func45, Tryd.ntmps45
    go_wp2_with fail
    refine (addrOk a _ _ A.out).mono ?_
    rintro e w' ⟨rfl, rfl⟩
    go_wp2_with fail
    refine (text_any a _ a0 a1 HP.out).mono ?_
    rintro e w1 ⟨rfl, hb1⟩
    go_wp2_with fail
    go_ret
    exact ⟨ret_str (by rw [← V.out, A.out]; rfl), hb1⟩
/-- A block as a text. -/
def blockT (a b : Int) : List UInt8 := addrT a ++ [47] ++ decI b
theorem addrT_len {a : Int} (h0 : 0 ≤ a) (h1 : a ≤ 4294967295) : (addrT a).length ≤ 1000 := by
  have L1 : (decI (a / 16777216)).length ≤ 100 := Nat.le_trans (decI_len 12 _ (by omega) (by omega)) (by omega)
  have L2 : (decI (a / 65536 % 256)).length ≤ 100 := Nat.le_trans (decI_len 12 _ (by omega) (by omega)) (by omega)
  have L3 : (decI (a / 256 % 256)).length ≤ 100 := Nat.le_trans (decI_len 12 _ (by omega) (by omega)) (by omega)
  have L4 : (decI (a % 256)).length ≤ 100 := Nat.le_trans (decI_len 12 _ (by omega) (by omega)) (by omega)
  simp [addrT]
  omega
set_option maxHeartbeats 1000000 in
set_option maxRecDepth 100000 in
theorem l1Block_any (a b : Int) (w : World) (a0 : 0 ≤ a) (a1 : a ≤ 4294967295) (b0 : 0 ≤ b) (b1 : b ≤ 32) :
    Calls Tryd.prog 32 #[.agg #[.int .i64 a, .int .i64 b]] w fun e w' => e = .returned (.string ⟨(blockT a b).toArray⟩) ∧ Below w.heap.size w w' := by
  have la := addrT_len a0 a1
  have lb : (decI b).length ≤ 100 := Nat.le_trans (decI_len 12 _ (by omega) (by omega)) (by omega)
  go_enter Tryd.func32, Tryd.ntmps32
  go_wp2_with fail
  refine wp_region_lat (Below.refl _ _) (by kernel_rfl) (by kernel_rfl) ?_
  intro hne hcl
  repeat (go_big_quiet_step (first | (go_at_call 57; exact lat_of (l1Text_any a _ a0 a1)) | (go_at_call 33; exact lat_of (dec_any b _ b0 (by omega)))))
  refine wpQuiet_nil ?_
  intro w1 hb1
  obtain ⟨hc1, hf1⟩ := bcell hb1
  clear hne hcl
  go_wp2_with fail
  go_ret
  exact ⟨ret_str (by simp only [bytes_append, blockT]; simp), below_under hb1⟩
set_option maxHeartbeats 1000000 in
set_option maxRecDepth 100000 in
theorem blockTextI (a b : Int) (w : World) (hp : Pow w) (v : List UInt8) (hv : (if okB a b then blockT a b else []) = v) :
    Calls Tryd.prog 20 #[.agg #[.int .i64 a, .int .i64 b]] w fun e w' => e = .returned (.string ⟨v.toArray⟩) ∧ Below w.heap.size w w' := by
  have V := hid_in hv; have HP := hid_in hp
  clear hv hp
  cases hA : okB a b
  · have A := hid_in hA
    clear hA
    go_enter Tryd.func20, Tryd.ntmps20
    go_wp2_with fail
    refine (blockOkI a b _ _ A.out).mono ?_
    rintro e w1 ⟨rfl, hb1⟩
    obtain ⟨hc1, hf1⟩ := bcell hb1
    go_wp2_with fail
    go_ret
    exact ⟨ret_str (by rw [← V.out, A.out]; rfl), below_under hb1⟩
  · have A := hid_in hA
    obtain ⟨a0, a1, b0, b1, _⟩ := ok_of hA
    have la := addrT_len a0 a1
    have lb : (decI b).length ≤ 100 := Nat.le_trans (decI_len 12 _ (by omega) (by omega)) (by omega)
    have T : Hid ((if inB a 0 4294967295 then addrT a else []) = addrT a) := by show _ = _; rw [if_pos (by simp [inB]; omega)]
    clear hA
    go_enter Tryd.func20, Tryd.ntmps20
    go_wp2_with fail
    refine (blockOkI a b _ _ A.out).mono ?_
    rintro e w1 ⟨rfl, hb1⟩
    obtain ⟨hc1, hf1⟩ := bcell hb1
    have Z1 := hid_in (below_under hb1)
    go_wp2_with fail
    have q0 : w1.cell? ⟨w.heap.size, 0, none⟩ = some (.int .i64 a) := by rw [hc1 _ _ (by simp)]; go_simp
    have q1 : w1.cell? ⟨w.heap.size, 1, none⟩ = some (.int .i64 b) := by rw [hc1 _ _ (by simp)]; go_simp
    have m1 : w.heap.size < w1.heap.size := by have := hb1.size; simp at this; omega
    have HPW : Hid (∀ W, Below w1.heap.size w1 W → Pow W) := by show ∀ W, _; exact fun W hW => HP.out.later (below_later Z1.out hW)
    clear hc1 hf1 hb1
    refine wp_region_lat (Below.refl _ _) (by kernel_rfl) (by kernel_rfl) ?_
    intro hne hcl
    repeat (go_big_quiet_step (first | (go_at_call 45; exact lat_of (addrTextI a _ (HPW.out _ (Lat.h _)) _ T.out)) | (go_at_call 19; exact lat_of (itoa_any b _ b0 (by omega) (HPW.out _ (Lat.h _))))))
    refine wpQuiet_nil ?_
    intro w1 hb1
    obtain ⟨hc1, hf1⟩ := bcell hb1
    clear hne hcl
    go_wp2_with fail
    go_ret
    exact ⟨ret_str (by rw [← V.out, A.out]; simp only [bytes_append, blockT, if_true]; simp), below_later Z1.out hb1⟩
end Go.Proofs.YtbimfhlmcdpnmaaDoor
