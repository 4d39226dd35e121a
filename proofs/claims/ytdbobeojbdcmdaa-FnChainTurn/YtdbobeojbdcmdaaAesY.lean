/- The keys of AES, in the specification, as a contract. The conditions stand at each theorem. -/
import Derived.Test.YtdbobeojbdcmdaaAesX
import Derived.Deep.RegionLaw
namespace Go.Proofs.Ytdbobeojbdcmdaa
open Go.RowKit Go.LatT Go.BlockM Go.PlainAid Go.OpnT Go.ApdG Go.BytM Go.AesM
set_option linter.unusedVariables false
set_option linter.unusedSimpArgs false
/-- How long a list is. -/
def lenOf : Value → Nat
  | .slice _ n _ => n
  | _ => 0
set_option maxHeartbeats 4000000 in
set_option maxRecDepth 100000 in
theorem l6Keys_any (s : ByteArray) (w : World) (hs : s.size = 16) :
    Calls Try.prog 31 #[.string s] w fun e w' => MkP w 176 (flatK (KS (bn s))) e w' := by
  have hb := get_bt s
  have hf : By 16 (bn s) := fun i _ => bn_lt s i
  go_enter Try.func31, Try.ntmps31
  go_wp2_with fail
  refine (l6Sub_any _).mono ?_
  rintro e w1 ⟨vt, rfl, Ot, hb1⟩
  obtain ⟨gt, ct, rfl, hct, hgt, RT, _⟩ := Ot.row (by omega)
  have HT := hid_in RT
  have HB1 := hid_in hb1
  have L0 := hid_in (LS.new w1 (bn s) 3)
  clear Ot hb1 RT
  go_wp2_with fail
  go_loopw [4, 5] (fun o v wr => ∃ k : Nat, k ≤ 16 ∧ v = .int .i64 (k : Int) ∧ Hid (LS w1 wr o k (bn s))) (fun _ v _ => 16 - (intOf v).toNat)
  case atStart => exact ⟨0, Nat.zero_le _, rfl, L0⟩
  case round =>
    obtain ⟨k, hk, rfl, HL⟩ := hrel
    have hz := HL.out.bel.size
    by_cases hlt : k < 16
    · have HK := hid_in hlt
      have q4 : (k : Int) < 16 := by omega
      have q5 : (k : Int) < s.size := by omega
      have g0 := bt_nonneg s k
      have g1 := bt_le s k
      go_wp2_with (at_builtin; refine wpG elemI rfl (.tmp 16) (.tmp 21) rfl w1.heap.size _ k _ rfl (HL.out.own.alloc _) ⟨wr.heap.size, 0, none⟩ 1 1 [.int .i64 _] rfl rfl (cells_new _ _ _) (one_int _) (by omega) (by simp; omega) ?_; intro v3 w3 o3 g3 n3; have O3 := hid_in o3; have G3 := hid_in g3; clear o3 g3 n3)
      rw [← bn_int] at O3 G3
      refine ⟨⟨k + 1, HK.out, by simp, ?_⟩, by have := HK.out; simp [intOf]; omega⟩
      exact HL.out.next O3.out G3.out rfl
    · have q4 : ¬ (k : Int) < 16 := by omega
      obtain rfl : k = 16 := by omega
      have L1 := hid_in (HL.out.congr (h := flatK (KS (bn s))) (fun i hi => by have := flatK_at (KS (bn s)) 0 i hi; rw [show 16 * 0 + i = i by omega] at this; rw [this]; rfl))
      clear HL
      go_wp2_with fail
      go_loopw [4, 6] (fun o v wr => ∃ m N : Nat, 4 ≤ m ∧ m ≤ 44 ∧ 4 * m = N ∧ v = .int .i64 ((rc ((m - 1) / 4) : Nat) : Int) ∧ Hid (LS w1 wr o N (flatK (KS (bn s))))) (fun o _ _ => 176 - lenOf o)
      case atStart => exact ⟨4, 16, by omega, by omega, rfl, rfl, L1⟩
      case round =>
        obtain ⟨m, N, hm4, hm44, hmN, rfl, HW⟩ := hrel
        obtain ⟨g0, c0, hu0, hc0, hg0, R0, hfz0⟩ := HW.out.own.row (by omega)
        by_cases hlt2 : m < 44
        · have HM := hid_in (show 4 ≤ m ∧ m < 44 ∧ N = 4 * m from ⟨hm4, hlt2, hmN.symm⟩)
          have hNb1 : 16 ≤ N := by omega
          have hNb2 : N ≤ 172 := by omega
          obtain ⟨x0, hx0⟩ : ∃ x, N = x + 4 := ⟨N - 4, by omega⟩
          have r0 := R0.cell x0 (by omega)
          have r1 := R0.cell (x0 + 1) (by omega)
          have r2 := R0.cell (x0 + 2) (by omega)
          have r3 := R0.cell (x0 + 3) (by omega)
          have l0 := R0.lt
          have b0 := flatKS_lt (f := bn s) hf x0
          have b1 := flatKS_lt (f := bn s) hf (x0 + 1)
          have b2 := flatKS_lt (f := bn s) hf (x0 + 2)
          have b3 := flatKS_lt (f := bn s) hf (x0 + 3)
          obtain ⟨x1, hx1⟩ : ∃ x, x0 + 1 = x := ⟨_, rfl⟩
          obtain ⟨x2, hx2⟩ : ∃ x, x0 + 2 = x := ⟨_, rfl⟩
          obtain ⟨x3, hx3⟩ : ∃ x, x0 + 3 = x := ⟨_, rfl⟩
          rw [hx1] at r1 b1; rw [hx2] at r2 b2; rw [hx3] at r3 b3
          have p0 : (N : Int) - 4 = (x0 : Int) := by omega
          have p1 : (N : Int) - 3 = (x1 : Int) := by omega
          have p2 : (N : Int) - 2 = (x2 : Int) := by omega
          have p3 : (N : Int) - 1 = (x3 : Int) := by omega
          have z0 : IntKind.i64.wrap ((N : Int) - 4) = (x0 : Int) := by rw [IntKind.wrap_i64]; omega
          have z1 : IntKind.i64.wrap ((N : Int) - 3) = (x1 : Int) := by rw [IntKind.wrap_i64]; omega
          have z2 : IntKind.i64.wrap ((N : Int) - 2) = (x2 : Int) := by rw [IntKind.wrap_i64]; omega
          have z3 : IntKind.i64.wrap ((N : Int) - 1) = (x3 : Int) := by rw [IntKind.wrap_i64]; omega
          have t0 : IntKind.i64.wrap (x0 : Int) = (x0 : Int) := by rw [IntKind.wrap_i64]; omega
          have t1 : IntKind.i64.wrap (x1 : Int) = (x1 : Int) := by rw [IntKind.wrap_i64]; omega
          have t2 : IntKind.i64.wrap (x2 : Int) = (x2 : Int) := by rw [IntKind.wrap_i64]; omega
          have t3 : IntKind.i64.wrap (x3 : Int) = (x3 : Int) := by rw [IntKind.wrap_i64]; omega
          have y0 : (x0 : Int) < N := by omega
          have y1 : (x1 : Int) < N := by omega
          have y2 : (x2 : Int) < N := by omega
          have y3 : (x3 : Int) < N := by omega
          have qN : (N : Int) < 176 := by omega
          have E0 := hid_in (show flatK (KS (bn s)) x0 = flatK (KS (bn s)) (4 * m - 4) by rw [show x0 = 4 * m - 4 by omega])
          have E1 := hid_in (show flatK (KS (bn s)) x1 = flatK (KS (bn s)) (4 * m - 4 + 1) by rw [show x1 = 4 * m - 4 + 1 by omega])
          have E2 := hid_in (show flatK (KS (bn s)) x2 = flatK (KS (bn s)) (4 * m - 4 + 2) by rw [show x2 = 4 * m - 4 + 2 by omega])
          have E3 := hid_in (show flatK (KS (bn s)) x3 = flatK (KS (bn s)) (4 * m - 4 + 3) by rw [show x3 = 4 * m - 4 + 3 by omega])
          have HX := hid_in hx0
          have hu0' := hu0
          rw [hu0] at HW
          rw [hu0]
          clear hx0 hx1 hx2 hx3 R0 hfz0 hu0 L1 hmN
          generalize hA0 : flatK (KS (bn s)) x0 = A0 at *
          generalize hA1 : flatK (KS (bn s)) x1 = A1 at *
          generalize hA2 : flatK (KS (bn s)) x2 = A2 at *
          generalize hA3 : flatK (KS (bn s)) x3 = A3 at *
          clear hA0 hA1 hA2 hA3
          have hu0 := hid_in hu0'
          clear hu0'
          go_wp2_with fail
          go_region_held3 (fun w' => w'.cell? ⟨g0, x0, none⟩ = some (.int .i64 (A0 : Int)) ∧ w'.cell? ⟨g0, x1, none⟩ = some (.int .i64 (A1 : Int)) ∧ w'.cell? ⟨g0, x2, none⟩ = some (.int .i64 (A2 : Int)) ∧ w'.cell? ⟨g0, x3, none⟩ = some (.int .i64 (A3 : Int))) (first | go_keep | (refine ⟨?_, ?_, ?_, ?_⟩ <;> go_simp)) (fail)
          have WBk : Hid ((wr.alloc (.cells #[.int .i64 (A0 : Int), .int .i64 (A1 : Int), .int .i64 (A2 : Int), .int .i64 (A3 : Int)] 3)).drew.heap[wr.heap.size]? = some (.cells #[.int .i64 (A0 : Int), .int .i64 (A1 : Int), .int .i64 (A2 : Int), .int .i64 (A3 : Int)] 3 (0, 0))) := heap_alloc_new wr _
          have LW := hid_in (show LS w1 (wr.alloc (.cells #[.int .i64 (A0 : Int), .int .i64 (A1 : Int), .int .i64 (A2 : Int), .int .i64 (A3 : Int)] 3)).drew (.slice (some ⟨g0, 0, none⟩) N c0) N (flatK (KS (bn s))) from ⟨(HW.out.bel.alloc HW.out.bel.size _).drew, HW.out.own.alloc _⟩)
          have hzr := HW.out.bel.size
          have hsz : (wr.alloc (.cells #[.int .i64 (A0 : Int), .int .i64 (A1 : Int), .int .i64 (A2 : Int), .int .i64 (A3 : Int)] 3)).drew.heap.size = wr.heap.size + 1 := by simp
          generalize (wr.alloc (.cells #[.int .i64 (A0 : Int), .int .i64 (A1 : Int), .int .i64 (A2 : Int), .int .i64 (A3 : Int)] 3)).drew = W4 at *
          have HSZ := hid_in hsz
          clear r0 r1 r2 r3 p0 p1 p2 p3 z0 z1 z2 z3 t0 t1 t2 t3 y0 y1 y2 y3 qN HX HW hsz
          by_cases hm0 : m % 4 = 0
          · have e16 : (N : Int) % 16 = 0 := by have := HM.out; omega
            have e16' : (N : Int).tmod 16 = 0 := by rw [Int.tmod_eq_emod_of_nonneg (by omega)]; exact e16
            obtain ⟨p, hp⟩ : ∃ p, (m - 1) / 4 = p := ⟨_, rfl⟩
            rw [hp]
            have k0 := cell_of_row W4 wr.heap.size 0 _ _ _ WBk.out
            have k1 := cell_of_row W4 wr.heap.size 1 _ _ _ WBk.out
            have k2 := cell_of_row W4 wr.heap.size 2 _ _ _ WBk.out
            have k3 := cell_of_row W4 wr.heap.size 3 _ _ _ WBk.out
            simp at k0 k1 k2 k3
            have RT := HT.out.at LW.out.bel HT.out.lt
            have j0 := RT.cell A0 b0
            have j1 := RT.cell A1 b1
            have j2 := RT.cell A2 b2
            have j3 := RT.cell A3 b3
            have i0 : (A0 : Int) < 256 := by omega
            have i1 : (A1 : Int) < 256 := by omega
            have i2 : (A2 : Int) < 256 := by omega
            have i3 : (A3 : Int) < 256 := by omega
            have l4 : wr.heap.size < W4.heap.size := by have := HSZ.out; omega
            have l5 : gt < W4.heap.size := RT.lt
            have hxo := xor64 (there A1) (rc p) (Nat.lt_trans (there_lt _ b1) (by omega)) (Nat.lt_trans (rc_lt p) (by omega))
            have WD := hid_in (show (#[.int .i64 ((there A1 ^^^ rc p : Nat) : Int), .int .i64 ((there A2 : Nat) : Int), .int .i64 ((there A3 : Nat) : Int), .int .i64 ((there A0 : Nat) : Int)] : Array Value) = (nC 4 (wd (bn s) m)).toArray by
              have hm := HM.out
              have q : m / 4 - 1 = p := by omega
              have f0 : flatK (KS (bn s)) (4 * m - 4) = KS (bn s) p 12 := by rw [show 4 * m - 4 = 16 * p + 12 by omega, flatK_at _ _ _ (by omega)]
              have f1 : flatK (KS (bn s)) (4 * m - 4 + 1) = KS (bn s) p 13 := by rw [show 4 * m - 4 + 1 = 16 * p + 13 by omega, flatK_at _ _ _ (by omega)]
              have f2 : flatK (KS (bn s)) (4 * m - 4 + 2) = KS (bn s) p 14 := by rw [show 4 * m - 4 + 2 = 16 * p + 14 by omega, flatK_at _ _ _ (by omega)]
              have f3 : flatK (KS (bn s)) (4 * m - 4 + 3) = KS (bn s) p 15 := by rw [show 4 * m - 4 + 3 = 16 * p + 15 by omega, flatK_at _ _ _ (by omega)]
              rw [E0.out, E1.out, E2.out, E3.out, f0, f1, f2, f3]
              show _ = #[Value.int .i64 ((wd (bn s) m 0 : Nat) : Int), .int .i64 ((wd (bn s) m 1 : Nat) : Int), .int .i64 ((wd (bn s) m 2 : Nat) : Int), .int .i64 ((wd (bn s) m 3 : Nat) : Int)]
              unfold wd
              rw [if_pos hm0, if_pos hm0, if_pos hm0, if_pos hm0, q]
              rfl)
            have RCN := hid_in (show xt (rc p) = rc (m / 4) by rw [show m / 4 = p + 1 by have := HM.out; omega]; rfl)
            have TMS := hid_in (fun w => l6Times_any (rc p) w (rc_lt p))
            clear hp hm0 RT
            generalize there A0 = B0 at *
            generalize there A1 = B1 at *
            generalize there A2 = B2 at *
            generalize there A3 = B3 at *
            generalize rc p = RP at *
            go_wp2_with fail
            go_region_held3 (fun w' => w'.cell? ⟨wr.heap.size, 0, none⟩ = some (.int .i64 (A0 : Int)) ∧ w'.cell? ⟨wr.heap.size, 1, none⟩ = some (.int .i64 (A1 : Int)) ∧ w'.cell? ⟨wr.heap.size, 2, none⟩ = some (.int .i64 (A2 : Int)) ∧ w'.cell? ⟨wr.heap.size, 3, none⟩ = some (.int .i64 (A3 : Int)) ∧ w'.cell? ⟨gt, A0, none⟩ = some (.int .i64 (B0 : Int)) ∧ w'.cell? ⟨gt, A1, none⟩ = some (.int .i64 (B1 : Int)) ∧ w'.cell? ⟨gt, A2, none⟩ = some (.int .i64 (B2 : Int)) ∧ w'.cell? ⟨gt, A3, none⟩ = some (.int .i64 (B3 : Int))) (first | go_keep | (refine ⟨?_, ?_, ?_, ?_, ?_, ?_, ?_, ?_⟩ <;> go_simp)) (fail)
            go_wp2_with fail
            refine (TMS.out _).mono ?_
            rintro e w5 ⟨rfl, rfl⟩
            have WS0 : Hid (WS w1 (W4.alloc (.cells #[.int .i64 ((B1 ^^^ RP : Nat) : Int), .int .i64 (B2 : Int), .int .i64 (B3 : Int), .int .i64 (B0 : Int)] 3)).drew (.slice (some ⟨g0, 0, none⟩) N c0) N (flatK (KS (bn s))) W4.heap.size (wd (bn s) m)) := by
              refine ⟨⟨(LW.out.bel.alloc LW.out.bel.size _).drew, LW.out.own.alloc _⟩, ?_⟩
              rw [← WD.out]
              exact heap_alloc_new W4 _
            generalize (W4.alloc (.cells #[.int .i64 ((B1 ^^^ RP : Nat) : Int), .int .i64 (B2 : Int), .int .i64 (B3 : Int), .int .i64 (B0 : Int)] 3)).drew = W6 at *
            generalize W4.heap.size = gw at *
            clear k0 k1 k2 k3 j0 j1 j2 j3 i0 i1 i2 i3 l4 l5 hxo WD TMS LW WBk HSZ
            go_wp2_with fail
            go_loopw [4, 9] (fun o v wr => ∃ i : Nat, i ≤ 4 ∧ v = .int .i64 (i : Int) ∧ Hid (WS w1 wr o (N + i) (flatK (KS (bn s))) gw (wd (bn s) m))) (fun _ v _ => 4 - (intOf v).toNat)
            case atStart => exact ⟨0, by omega, rfl, WS0⟩
            case round =>
              obtain ⟨i, hi, rfl, HV⟩ := hrel
              obtain ⟨g, c, hu, hc, hg, R, hfz⟩ := HV.out.ls.own.row (by omega)
              have hz := HV.out.ls.bel.size
              by_cases hil : i < 4
              · have HI := hid_in hil
                obtain ⟨y, hy⟩ : ∃ y, N - 16 + i = y := ⟨_, rfl⟩
                have HY := hid_in hy
                have hyN : y < N + i := by omega
                have d1 := R.cell y hyN
                have d2 := HV.out.row.cell i hil
                have m1 := R.lt
                have m2 := HV.out.row.lt
                have Aby := flatKS_lt (f := bn s) hf y
                have Bby := wd_lt (f := bn s) hf m i hil
                have q1 : (i : Int) < 4 := by omega
                have q2 : (y : Int) < (N : Int) + (i : Int) := by omega
                have f1 : (N : Int) - 16 + (i : Int) = (y : Int) := by omega
                have f2 : IntKind.i64.wrap ((N : Int) - 16) = (N : Int) - 16 := by rw [IntKind.wrap_i64]; omega
                have f4 : IntKind.i64.wrap ((N : Int) - 16 + (i : Int)) = (y : Int) := by rw [IntKind.wrap_i64]; omega
                have f5 : IntKind.i64.wrap (y : Int) = (y : Int) := by rw [IntKind.wrap_i64]; omega
                have hst := hid_in (show flatK (KS (bn s)) y ^^^ wd (bn s) m i = flatK (KS (bn s)) (N + i) by
                  have hm := HM.out
                  have := key_step (bn s) m i hm.1 hm.2.1 hil
                  rw [hm.2.2, this, show y = 4 * m - 16 + i by omega])
                have hbase : w1.heap.size ≤ (wr.drew.alloc (.cells #[.int .i64 ((flatK (KS (bn s)) y ^^^ wd (bn s) m i : Nat) : Int)] 3)).heap.size := by simp; omega
                have hbase2 : w1.heap.size ≤ (wr.alloc (.cells #[.int .i64 ((flatK (KS (bn s)) y ^^^ wd (bn s) m i : Nat) : Int)] 3)).drew.heap.size := by simp; omega
                have hwn : ∀ j u, [Value.int .i64 ((flatK (KS (bn s)) y ^^^ wd (bn s) m i : Nat) : Int)][j]? = some u → (wr.drew.alloc (.cells #[.int .i64 ((flatK (KS (bn s)) y ^^^ wd (bn s) m i : Nat) : Int)] 3)).cell? ((⟨wr.heap.size, 0, none⟩ : Addr).add j) = some u := cells_new wr.drew _ 3
                have hwn2 : ∀ j u, [Value.int .i64 ((flatK (KS (bn s)) y ^^^ wd (bn s) m i : Nat) : Int)][j]? = some u → (wr.alloc (.cells #[.int .i64 ((flatK (KS (bn s)) y ^^^ wd (bn s) m i : Nat) : Int)] 3)).drew.cell? ((⟨wr.heap.size, 0, none⟩ : Addr).add j) = some u := cells_new wr _ 3
                have hxo := xor64 (flatK (KS (bn s)) y) (wd (bn s) m i) (by omega) (by omega)
                rw [hu] at HV
                rw [hu]
                clear hy hu R hfz
                have hwo := hid_in ((owns_drew HV.out.ls.own).alloc (.cells #[.int .i64 ((flatK (KS (bn s)) y ^^^ wd (bn s) m i : Nat) : Int)] 3))
                have hwo2 := hid_in (owns_drew (HV.out.ls.own.alloc (.cells #[.int .i64 ((flatK (KS (bn s)) y ^^^ wd (bn s) m i : Nat) : Int)] 3)))
                generalize flatK (KS (bn s)) y = A at *
                generalize hB : wd (bn s) m i = B at *
                clear hB
                go_wp2_with fail
                go_region_law (first | (refine Go.ApdG.stepG elemI rfl (.tmp 85) (.tmp 98) rfl w1.heap.size (.slice (some ⟨g, 0, none⟩) (N + i) c) (N + i) _ rfl (by first | exact hwo.out | exact hwo2.out) ⟨wr.heap.size, 0, none⟩ 1 1 [.int .i64 ((A ^^^ B : Nat) : Int)] rfl rfl (by first | exact hwn | exact hwn2) (one_int _) (by omega) (by first | exact hbase | exact hbase2) ?_; intro v3 w3 o3 g3 n3; have O3 := hid_in o3; have G3 := hid_in g3; clear o3 g3 n3))
                all_goals
                  go_wp2_with fail
                  refine ⟨⟨i + 1, HI.out, by simp, ?_⟩, by have := HI.out; simp [intOf]; omega⟩
                  exact HV.out.nextD (by omega) O3.out G3.out hst.out
              · have q1 : ¬ (i : Int) < 4 := by omega
                obtain rfl : i = 4 := by omega
                clear R hfz hu
                have LF := hid_in HV.out.ls
                go_wp2_with fail
                refine ⟨⟨m + 1, N + 4, by have := HM.out; omega, by have := HM.out; omega, by have := HM.out; omega, ?_, LF⟩, ?_⟩
                · rw [RCN.out]; simp
                · have := HM.out; obtain ⟨g, c, hu, _⟩ := HV.out.ls.own.row (by omega); rw [hu]; simp [lenOf]; omega
          · have e16 : ¬ (16 : Int) ∣ (N : Int) := by have := HM.out; omega
            have e17 : ((N : Int) % 16 == 0) = false := by simp; omega
            have e18 : ¬ (N : Int) % 16 = 0 := by omega
            have WD := hid_in (show (#[.int .i64 (A0 : Int), .int .i64 (A1 : Int), .int .i64 (A2 : Int), .int .i64 (A3 : Int)] : Array Value) = (nC 4 (wd (bn s) m)).toArray by
              rw [E0.out, E1.out, E2.out, E3.out]
              show _ = #[Value.int .i64 ((wd (bn s) m 0 : Nat) : Int), .int .i64 ((wd (bn s) m 1 : Nat) : Int), .int .i64 ((wd (bn s) m 2 : Nat) : Int), .int .i64 ((wd (bn s) m 3 : Nat) : Int)]
              unfold wd
              rw [if_neg hm0, if_neg hm0, if_neg hm0, if_neg hm0]
              rfl)
            have RCN := hid_in (show rc ((m - 1) / 4) = rc (m / 4) by rw [show (m - 1) / 4 = m / 4 by omega])
            have WS0 : Hid (WS w1 W4 (.slice (some ⟨g0, 0, none⟩) N c0) N (flatK (KS (bn s))) wr.heap.size (wd (bn s) m)) := by
              refine ⟨LW.out, ?_⟩
              rw [← WD.out]; exact WBk.out
            generalize rc ((m - 1) / 4) = RP at *
            generalize wr.heap.size = gw at *
            clear WD LW WBk HSZ hm0
            go_wp2_with fail
            go_loopw [4, 9] (fun o v wr => ∃ i : Nat, i ≤ 4 ∧ v = .int .i64 (i : Int) ∧ Hid (WS w1 wr o (N + i) (flatK (KS (bn s))) gw (wd (bn s) m))) (fun _ v _ => 4 - (intOf v).toNat)
            case atStart => exact ⟨0, by omega, rfl, WS0⟩
            case round =>
              obtain ⟨i, hi, rfl, HV⟩ := hrel
              obtain ⟨g, c, hu, hc, hg, R, hfz⟩ := HV.out.ls.own.row (by omega)
              have hz := HV.out.ls.bel.size
              by_cases hil : i < 4
              · have HI := hid_in hil
                obtain ⟨y, hy⟩ : ∃ y, N - 16 + i = y := ⟨_, rfl⟩
                have HY := hid_in hy
                have hyN : y < N + i := by omega
                have d1 := R.cell y hyN
                have d2 := HV.out.row.cell i hil
                have m1 := R.lt
                have m2 := HV.out.row.lt
                have Aby := flatKS_lt (f := bn s) hf y
                have Bby := wd_lt (f := bn s) hf m i hil
                have q1 : (i : Int) < 4 := by omega
                have q2 : (y : Int) < (N : Int) + (i : Int) := by omega
                have f1 : (N : Int) - 16 + (i : Int) = (y : Int) := by omega
                have f2 : IntKind.i64.wrap ((N : Int) - 16) = (N : Int) - 16 := by rw [IntKind.wrap_i64]; omega
                have f4 : IntKind.i64.wrap ((N : Int) - 16 + (i : Int)) = (y : Int) := by rw [IntKind.wrap_i64]; omega
                have f5 : IntKind.i64.wrap (y : Int) = (y : Int) := by rw [IntKind.wrap_i64]; omega
                have hst := hid_in (show flatK (KS (bn s)) y ^^^ wd (bn s) m i = flatK (KS (bn s)) (N + i) by
                  have hm := HM.out
                  have := key_step (bn s) m i hm.1 hm.2.1 hil
                  rw [hm.2.2, this, show y = 4 * m - 16 + i by omega])
                have hbase : w1.heap.size ≤ (wr.drew.alloc (.cells #[.int .i64 ((flatK (KS (bn s)) y ^^^ wd (bn s) m i : Nat) : Int)] 3)).heap.size := by simp; omega
                have hbase2 : w1.heap.size ≤ (wr.alloc (.cells #[.int .i64 ((flatK (KS (bn s)) y ^^^ wd (bn s) m i : Nat) : Int)] 3)).drew.heap.size := by simp; omega
                have hwn : ∀ j u, [Value.int .i64 ((flatK (KS (bn s)) y ^^^ wd (bn s) m i : Nat) : Int)][j]? = some u → (wr.drew.alloc (.cells #[.int .i64 ((flatK (KS (bn s)) y ^^^ wd (bn s) m i : Nat) : Int)] 3)).cell? ((⟨wr.heap.size, 0, none⟩ : Addr).add j) = some u := cells_new wr.drew _ 3
                have hwn2 : ∀ j u, [Value.int .i64 ((flatK (KS (bn s)) y ^^^ wd (bn s) m i : Nat) : Int)][j]? = some u → (wr.alloc (.cells #[.int .i64 ((flatK (KS (bn s)) y ^^^ wd (bn s) m i : Nat) : Int)] 3)).drew.cell? ((⟨wr.heap.size, 0, none⟩ : Addr).add j) = some u := cells_new wr _ 3
                have hxo := xor64 (flatK (KS (bn s)) y) (wd (bn s) m i) (by omega) (by omega)
                rw [hu] at HV
                rw [hu]
                clear hy hu R hfz
                have hwo := hid_in ((owns_drew HV.out.ls.own).alloc (.cells #[.int .i64 ((flatK (KS (bn s)) y ^^^ wd (bn s) m i : Nat) : Int)] 3))
                have hwo2 := hid_in (owns_drew (HV.out.ls.own.alloc (.cells #[.int .i64 ((flatK (KS (bn s)) y ^^^ wd (bn s) m i : Nat) : Int)] 3)))
                generalize flatK (KS (bn s)) y = A at *
                generalize hB : wd (bn s) m i = B at *
                clear hB
                go_wp2_with fail
                go_region_law (first | (refine Go.ApdG.stepG elemI rfl (.tmp 85) (.tmp 98) rfl w1.heap.size (.slice (some ⟨g, 0, none⟩) (N + i) c) (N + i) _ rfl (by first | exact hwo.out | exact hwo2.out) ⟨wr.heap.size, 0, none⟩ 1 1 [.int .i64 ((A ^^^ B : Nat) : Int)] rfl rfl (by first | exact hwn | exact hwn2) (one_int _) (by omega) (by first | exact hbase | exact hbase2) ?_; intro v3 w3 o3 g3 n3; have O3 := hid_in o3; have G3 := hid_in g3; clear o3 g3 n3))
                all_goals
                  go_wp2_with fail
                  refine ⟨⟨i + 1, HI.out, by simp, ?_⟩, by have := HI.out; simp [intOf]; omega⟩
                  exact HV.out.nextD (by omega) O3.out G3.out hst.out
              · have q1 : ¬ (i : Int) < 4 := by omega
                obtain rfl : i = 4 := by omega
                clear R hfz hu
                have LF := hid_in HV.out.ls
                go_wp2_with fail
                refine ⟨⟨m + 1, N + 4, by have := HM.out; omega, by have := HM.out; omega, by have := HM.out; omega, ?_, LF⟩, ?_⟩
                · rw [RCN.out]; simp
                · have := HM.out; obtain ⟨g, c, hu, _⟩ := HV.out.ls.own.row (by omega); rw [hu]; simp [lenOf]; omega
        · obtain rfl : m = 44 := by omega
          have hN : N = 176 := by omega
          subst hN
          have LF := hid_in HW.out
          rw [hu0] at LF
          rw [hu0]
          clear R0 hfz0 hu0 HW
          go_wp2_with fail
          go_ret
          exact ⟨_, rfl, LF.out.own.mono HB1.out.size, below_later HB1.out LF.out.bel⟩
end Go.Proofs.Ytdbobeojbdcmdaa
