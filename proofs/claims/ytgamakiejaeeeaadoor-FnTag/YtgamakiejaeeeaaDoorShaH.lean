/- A block taken into the state, in the program, as a contract. The conditions stand at the theorem. -/
import Derived.Test.YtgamakiejaeeeaaDoorShaG
namespace Go.Proofs.YtgamakiejaeeeaaDoor
open Go.RowKit Go.LatT Go.BlockM Go.PlainAid Go.OpnT Go.ApdG Go.BytM Go.AesM Go.RowQ
set_option linter.unusedVariables false
set_option linter.unusedSimpArgs false
theorem row8_at {W : World} {ad : Addr} {s : Nat → Nat} (h : ∀ j, j < 8 → W.cell? (ad.add j) = (uA 8 s)[j]?) : ∀ j, j < (uA 8 s).size → W.cell? (ad.add j) = (uA 8 s)[j]? := fun j hj => h j (by rwa [uA_size] at hj)
/-- What lies where behind the block's copy. -/
structure WZ (g : Nat) (w W : World) (s b : Nat → Nat) (h z : Nat) : Prop where
  sx : SX W g s b h z
  mv : Mv g w W
  gk : GK W
theorem WZ.later {g : Nat} {w W W' : World} {s b : Nat → Nat} {h z : Nat} (x : WZ g w W s b h z) (hb : Below W.heap.size W W') : WZ g w W' s b h z :=
  ⟨x.sx.block (hb.block g x.sx.lt), x.mv.later hb, x.gk.below hb x.gk.lt⟩
theorem zeroU8 : (#[.int .u32 0, .int .u32 0, .int .u32 0, .int .u32 0, .int .u32 0, .int .u32 0, .int .u32 0, .int .u32 0] : Array Value) = uA 8 (fun _ => 0) := by kernel_rfl
theorem WZ.drew {g : Nat} {w W : World} {s b : Nat → Nat} {h z : Nat} (x : WZ g w W s b h z) : WZ g w W.drew s b h z := ⟨x.sx, x.mv.drew, ⟨x.gk.lt, x.gk.st, x.gk.cell⟩⟩
theorem WZ.setRow {g k : Nat} {w W : World} {s b : Nat → Nat} {h z : Nat} {cs : Array Value} (x : WZ g w W s b h z) (hk : w.heap.size ≤ k) (hg : g < w.heap.size) (h1 : 1 < w.heap.size) : WZ g w (W.setRow k cs) s b h z := by
  have e : ∀ j, j < w.heap.size → (W.setRow k cs).heap[j]? = W.heap[j]? := fun j hj => by
    simp only [World.setRow, Array.getElem?_modify]
    rw [if_neg (by omega)]
  have hb : Below w.heap.size W (W.setRow k cs) := Below_setRow (Below.refl _ _) hk
  exact ⟨x.sx.block (e g hg), ⟨x.mv.os, x.mv.tape, x.mv.output, by simpa [World.setRow] using x.mv.size, fun j hj hne => (e j hj).trans (x.mv.block j hj hne)⟩, x.gk.below hb h1⟩
theorem nxt (k v : Nat) (s : Nat → Nat) : shs k v s 0 = (s 7 + rs (s 4) [6, 11, 25] + ((s 4 &&& s 5) ^^^ ((4294967295 - s 4) &&& s 6)) + k + v + (rs (s 0) [2, 13, 22] + ((s 0 &&& s 1) ^^^ (s 0 &&& s 2) ^^^ (s 1 &&& s 2)))) % 4294967296 := by unfold shs; rfl
theorem nxt4 (k v : Nat) (s : Nat → Nat) : shs k v s 4 = (s 3 + (s 7 + rs (s 4) [6, 11, 25] + ((s 4 &&& s 5) ^^^ ((4294967295 - s 4) &&& s 6)) + k + v)) % 4294967296 := by unfold shs; rfl
theorem nxtS (k v : Nat) (s : Nat → Nat) (i : Nat) (h0 : i ≠ 0) (h4 : i ≠ 4) : shs k v s i = s (i - 1) := by unfold shs; rw [if_neg h0, if_neg h4]
theorem not32 (E : Nat) (h : E < 4294967296) : bits BinOp.xor IntKind.u32 IntKind.u32.max (E : Int) = ((4294967295 - E : Nat) : Int) := by
  have h1 := xor32 4294967295 E (by decide) h
  have h2 : (4294967295 : Nat) ^^^ E = 4294967295 - E := by
    have h3 : ((BitVec.allOnes 32) ^^^ (BitVec.ofNat 32 E)).toNat = (~~~ (BitVec.ofNat 32 E)).toNat := by rw [BitVec.allOnes_xor]
    rw [BitVec.toNat_xor, BitVec.toNat_not, BitVec.toNat_ofNat, Nat.mod_eq_of_lt h] at h3
    simpa using h3
  rw [h2] at h1
  exact h1
theorem fstE (E F G H Y X : Nat) (hE : E < 4294967296) (hF : F < 4294967296) (hG : G < 4294967296) : IntKind.u32.wrap (IntKind.u32.wrap (IntKind.u32.wrap (IntKind.u32.wrap ((H : Int) + (rs E [6, 11, 25] : Int)) + bits BinOp.xor IntKind.u32 (bits BinOp.and IntKind.u32 (E : Int) (F : Int)) (bits BinOp.and IntKind.u32 (bits BinOp.xor IntKind.u32 IntKind.u32.max (E : Int)) (G : Int))) + (Y : Int)) + (X : Int)) = (((H + rs E [6, 11, 25] + ((E &&& F) ^^^ ((4294967295 - E) &&& G)) + Y + X) % 4294967296 : Nat) : Int) := by
  rw [not32 E hE, and32 E F hE hF, and32 (4294967295 - E) G (by omega) hG, xor32 _ _ (Nat.and_lt_two_pow (n := 32) E hF) (Nat.and_lt_two_pow (n := 32) _ hG), IntKind.wrap_u32, IntKind.wrap_u32, IntKind.wrap_u32, IntKind.wrap_u32]
  omega
theorem sndE (A B C : Nat) (hA : A < 4294967296) (hB : B < 4294967296) (hC : C < 4294967296) : IntKind.u32.wrap ((rs A [2, 13, 22] : Int) + bits BinOp.xor IntKind.u32 (bits BinOp.xor IntKind.u32 (bits BinOp.and IntKind.u32 (A : Int) (B : Int)) (bits BinOp.and IntKind.u32 (A : Int) (C : Int))) (bits BinOp.and IntKind.u32 (B : Int) (C : Int))) = (((rs A [2, 13, 22] + ((A &&& B) ^^^ (A &&& C) ^^^ (B &&& C))) % 4294967296 : Nat) : Int) := by
  rw [and32 A B hA hB, and32 A C hA hC, and32 B C hB hC, xor32 _ _ (Nat.and_lt_two_pow (n := 32) _ hB) (Nat.and_lt_two_pow (n := 32) _ hC), xor32 _ _ (Nat.xor_lt_two_pow (n := 32) (Nat.and_lt_two_pow (n := 32) _ hB) (Nat.and_lt_two_pow (n := 32) _ hC)) (Nat.and_lt_two_pow (n := 32) _ hC), IntKind.wrap_u32]
  omega
set_option maxHeartbeats 4000000 in
set_option maxRecDepth 100000 in
theorem mix_any (g : Nat) (s b : Nat → Nat) (h z : Nat) (w : World) (hg1 : 1 < g) (hS : SX w g s b h z) (hK : GK w) (hb : ∀ i, i < 64 → b i < 256) (hs : ∀ i, i < 8 → s i < 4294967296) :
    Calls Tryd.prog 27 #[.pointer (some ⟨g, 0, none⟩)] w fun e w' => (∃ v, e = .returned v) ∧ SX w' g (shm b s) b h z ∧ Mv g w w' := by
  have S0 := hid_in (show WZ g w w s b h z from ⟨hS, Mv.refl g w, hK⟩)
  have HR := hid_in hS.row8
  have hgl := hS.lt
  have h1l := hK.lt
  have HY := hid_in hb; have HT := hid_in hs
  have U0 := hid_in (UB.new w 8 48 (fun _ => 0))
  have S1 := hid_in ((S0.out.later (below_box w (.cells (uA 8 (fun _ => 0)) 48))).setRow (k := w.heap.size) (cs := uA 8 s) (Nat.le_refl _) hgl h1l)
  rw [← zeroU8] at U0 S1
  have U1 : Hid (UB _ w.heap.size 8 48 s) := setRow_at (cs := uA 8 s) U0.out
  have HZ := hid_in (show w.heap.size + 1 ≤ ((w.alloc (.cells #[.int .u32 0, .int .u32 0, .int .u32 0, .int .u32 0, .int .u32 0, .int .u32 0, .int .u32 0, .int .u32 0] 48)).setRow w.heap.size (uA 8 s)).heap.size by simp [World.setRow])
  clear hS hK hb hs
  go_enter Tryd.func27, Tryd.ntmps27
  go_wp2_with (first | (refine wpList_load_at aggU8 rfl _ rfl ⟨g, 0, none⟩ rfl (uA 8 s) (uA_size 8 s) HR.out ?_) | (refine wpList_store_row rfl 48 _ _ rfl w.heap.size _ rfl rfl 48 _ U0.out sizeU8 (by rw [uA_size]; rfl) (uA_one _ _) ?_))
  generalize ((w.alloc (.cells _ 48)).setRow w.heap.size (uA 8 s)) = W0 at *
  have c0 := U1.out.cell 0 (by omega)
  have c1 := U1.out.cell 1 (by omega)
  have c2 := U1.out.cell 2 (by omega)
  have c3 := U1.out.cell 3 (by omega)
  have c4 := U1.out.cell 4 (by omega)
  have c5 := U1.out.cell 5 (by omega)
  have c6 := U1.out.cell 6 (by omega)
  have c7 := U1.out.cell 7 (by omega)
  have hw0 : w.heap.size < W0.heap.size := HZ.out
  go_quiet (fail)
  clear c0 c1 c2 c3 c4 c5 c6 c7
  go_wp2_with fail
  have M0 := hid_in (show WZ g w (W0.drewN nq) s b h z from ⟨S1.out.sx, ⟨S1.out.mv.os, S1.out.mv.tape, S1.out.mv.output, S1.out.mv.size, S1.out.mv.block⟩, ⟨S1.out.gk.lt, S1.out.gk.st, S1.out.gk.cell⟩⟩)
  refine (words_any g b (W0.drewN nq) M0.out.sx.lt (fun j hj => M0.out.sx.bk j hj) HY.out).mono ?_
  rintro e W1 ⟨rfl, hb1⟩
  have M1 := hid_in (M0.out.later hb1)
  clear hb1 M0 S1 HZ hw0 U0 U1 HR
  go_wp2_with fail
  go_loopw [3, 4, 5, 6, 7, 8, 9, 10, 39] (fun v0 v1 v2 v3 v4 v5 v6 v7 u wr => ∃ k : Nat, k ≤ 64 ∧ v0 = .int .u32 (sh b s k 0 : Int) ∧ v1 = .int .u32 (sh b s k 1 : Int) ∧ v2 = .int .u32 (sh b s k 2 : Int) ∧ v3 = .int .u32 (sh b s k 3 : Int) ∧ v4 = .int .u32 (sh b s k 4 : Int) ∧ v5 = .int .u32 (sh b s k 5 : Int) ∧ v6 = .int .u32 (sh b s k 6 : Int) ∧ v7 = .int .u32 (sh b s k 7 : Int) ∧ u = .int .i64 (k : Int) ∧ Hid (WZ g w wr s b h z)) (fun _ _ _ _ _ _ _ _ u _ => 64 - (intOf u).toNat)
  case atStart => exact ⟨0, Nat.zero_le _, rfl, rfl, rfl, rfl, rfl, rfl, rfl, rfl, rfl, M1⟩
  case round =>
    obtain ⟨k, hk, rfl, rfl, rfl, rfl, rfl, rfl, rfl, rfl, rfl, HW⟩ := hrel
    by_cases hlt : k < 64
    · have HL := hid_in hlt
      have q1 : (k : Int) < 64 := by omega
      have ix := idxW64 (wds b) k hlt
      have cK := HW.out.gk.cell k hlt
      have hK1 := HW.out.gk.lt
      have hst := sh_lt (b := b) HT.out k
      have h0 := hst 0 (by omega)
      have h1 := hst 1 (by omega)
      have h2 := hst 2 (by omega)
      have h3 := hst 3 (by omega)
      have h4 := hst 4 (by omega)
      have h5 := hst 5 (by omega)
      have h6 := hst 6 (by omega)
      have h7 := hst 7 (by omega)
      have E0 := hid_in (show sh b s (k + 1) 0 = _ from nxt (kst k) (wds b k) (sh b s k))
      have E1 := hid_in (show sh b s (k + 1) 1 = _ from nxtS (kst k) (wds b k) (sh b s k) 1 (by omega) (by omega))
      have E2 := hid_in (show sh b s (k + 1) 2 = _ from nxtS (kst k) (wds b k) (sh b s k) 2 (by omega) (by omega))
      have E3 := hid_in (show sh b s (k + 1) 3 = _ from nxtS (kst k) (wds b k) (sh b s k) 3 (by omega) (by omega))
      have E4 := hid_in (show sh b s (k + 1) 4 = _ from nxt4 (kst k) (wds b k) (sh b s k))
      have E5 := hid_in (show sh b s (k + 1) 5 = _ from nxtS (kst k) (wds b k) (sh b s k) 5 (by omega) (by omega))
      have E6 := hid_in (show sh b s (k + 1) 6 = _ from nxtS (kst k) (wds b k) (sh b s k) 6 (by omega) (by omega))
      have E7 := hid_in (show sh b s (k + 1) 7 = _ from nxtS (kst k) (wds b k) (sh b s k) 7 (by omega) (by omega))
      have hkl := kst_lt k
      have hwl := wds_lt HY.out k
      clear hst
      generalize sh b s k 0 = A at *
      generalize sh b s k 1 = B at *
      generalize sh b s k 2 = C at *
      generalize sh b s k 3 = D at *
      generalize sh b s k 4 = E at *
      generalize sh b s k 5 = F at *
      generalize sh b s k 6 = G at *
      generalize sh b s k 7 = H at *
      generalize hX : wds b k = X at *
      generalize hY : kst k = Y at *
      clear hX hY
      go_wp2_with fail
      go_region_held3 (fun w' => w'.cell? ⟨1, k, none⟩ = some (.int .u32 (Y : Int))) (first | (go_keep; done) | (go_simp; done)) (first | (go_at_call 33; refine (turned3 E _ _ 6 11 25 _ h4 (by decide) (by decide) (by decide) ?_ ?_ ?_ ?_).mono ?_; (focus (first | omega | (simp; done) | (simp; omega))); (focus (go_simp)); (focus (go_simp)); (focus (go_simp)); rintro e w1 ⟨rfl, hb1⟩; have M2 := hid_in (((HW.out.later (below_box _ _)).drew).later hb1); have u1 := hb1.size; (try simp at u1); have y1 := (hb1.cell (p := ⟨1, k, none⟩) (by first | (simp; omega) | omega)).trans (by first | (go_keep; done) | go_simp : _ = some (Value.int .u32 (Y : Int)))))
      rw [fstE E F G H Y X h4 h5 h6]
      obtain ⟨T, hT⟩ : ∃ T, (H + rs E [6, 11, 25] + ((E &&& F) ^^^ ((4294967295 - E) &&& G)) + Y + X) = T := ⟨_, rfl⟩
      rw [hT] at E0 E4
      rw [hT]
      clear hT y1 u1 hb1 cK
      have hz1 := M2.out.sx.lt
      go_wp2_with fail
      have M3 := hid_in (M2.out.later (below_box w1 (.cells #[.int .i64 2, .int .i64 13, .int .i64 22] 3)))
      refine (turned3 A _ _ 2 13 22 _ h0 (by decide) (by decide) (by decide) ?_ ?_ ?_ ?_).mono ?_
      · simp
      · go_simp
      · go_simp
      · go_simp
      rintro e w2 ⟨rfl, hb2⟩
      have M4 := hid_in (M3.out.later hb2)
      clear hb2 M3 M2
      go_wp2_with fail
      have SE := sndE A B C h0 h1 h2
      rw [IntKind.wrap_u32] at SE
      refine ⟨⟨k + 1, HL.out, ?_, by rw [E1.out], by rw [E2.out], by rw [E3.out], ?_, by rw [E5.out], by rw [E6.out], by rw [E7.out], by simp, M4⟩, by have := HL.out; simp [intOf]; omega⟩
      · rw [SE, E0.out]
        congr 1
        omega
      · rw [E4.out]
        congr 1
        omega
    · have q1 : ¬ (k : Int) < 64 := by omega
      obtain rfl : k = 64 := by omega
      have M5 := hid_in (show WZ g w wr s b h z from HW.out)
      clear HW M1
      go_wp2_with fail
      go_loopw [100] (fun u wr => ∃ i : Nat, i ≤ 8 ∧ u = .int .i64 (i : Int) ∧ Hid (WZ g w wr (fun j => if j < i then shm b s j else s j) b h z)) (fun u _ => 8 - (intOf u).toNat)
      case atStart =>
        refine ⟨0, Nat.zero_le _, rfl, ?_⟩
        exact ⟨M5.out.sx.congr (fun i _ => by simp) (fun _ _ => rfl), M5.out.mv, M5.out.gk⟩
      case round =>
        clear M5
        obtain ⟨i, hi, rfl, HV⟩ := hrel
        by_cases hlt2 : i < 8
        · have HL := hid_in hlt2
          have q2 : (i : Int) < 8 := by omega
          have ix := idxW8 (sh b s 64) i hlt2
          have ci := HV.out.sx.st i hlt2
          have fi := HV.out.sx.frozen i
          rw [if_neg (Nat.lt_irrefl i)] at ci
          have hgw := HV.out.sx.lt
          have HE := hid_in (show (((s i : Int) + (sh b s 64 i : Int)) % 4294967296) = ((shm b s i : Nat) : Int) by unfold shm; omega)
          have eqA : (#[Value.int IntKind.u32 (sh b s 64 0 : Int), Value.int IntKind.u32 (sh b s 64 1 : Int), Value.int IntKind.u32 (sh b s 64 2 : Int), Value.int IntKind.u32 (sh b s 64 3 : Int), Value.int IntKind.u32 (sh b s 64 4 : Int), Value.int IntKind.u32 (sh b s 64 5 : Int), Value.int IntKind.u32 (sh b s 64 6 : Int), Value.int IntKind.u32 (sh b s 64 7 : Int)] : Array Value) = uA 8 (sh b s 64) := rfl
          rw [← eqA] at ix
          clear eqA
          go_wp2_with fail
          go_region
          go_wp2_with fail
          refine ⟨⟨i + 1, HL.out, by simp, ?_⟩, by have := HL.out; simp [intOf]; omega⟩
          show WZ _ _ _ _ _ _ _
          rw [HE.out]
          have X := HV.out.sx.setS i (shm b s i) HL.out
          refine ⟨?_, ?_, ?_⟩
          · refine SX.congr (s := fun j => if j = i then shm b s i else if j < i then shm b s j else s j) (b := b) X (fun j _ => ?_) (fun _ _ => rfl)
            show (if j = i then _ else _) = if j < i + 1 then _ else _
            by_cases e : j = i
            · rw [if_pos e, e, if_pos (by omega)]
            · by_cases e2 : j < i
              · rw [if_neg e, if_pos e2, if_pos (by omega)]
              · rw [if_neg e, if_neg e2, if_neg (by omega)]
          · exact (HV.out.mv.setC i _).drew
          · exact HV.out.gk.mv (g := g) ((Mv.refl g wr).setC i _).drew hg1
        · have q2 : ¬ (i : Int) < 8 := by omega
          obtain rfl : i = 8 := by omega
          have X := hid_in (HV.out.sx.congr (s' := shm b s) (b' := b) (fun j hj => by show (if j < 8 then _ else _) = _; rw [if_pos hj]) (fun _ _ => rfl))
          have Y := hid_in HV.out.mv
          clear HV
          go_wp2_with fail
          go_end0
          exact ⟨⟨_, rfl⟩, X.out, Y.out⟩
end Go.Proofs.YtgamakiejaeeeaaDoor
