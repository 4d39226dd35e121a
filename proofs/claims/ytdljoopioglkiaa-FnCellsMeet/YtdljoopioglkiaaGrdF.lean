/- The cells of rules, in the specification: the walk. The conditions stand at each theorem. -/
import Derived.Test.YtdljoopioglkiaaGrdE
namespace Go.LatT
open Go.RowKit
theorem wp_region_lat_tail2 {P : Program} {id : Nat} {Q : Exit → Act → World → Prop} {a : Act} {w wn : World} {l init : List Oper} {o2 o3 : Oper} (h0 : Below w.heap.size w wn) (hm : P.follows .mixedOrders = true)
    (hi : l.dropLast.dropLast = init) (h2 : l.dropLast.getLast? = some o2) (h3 : l.getLast? = some o3) (hB : tailsB init [o2, o3] = true)
    (h : Nonempty (Lat w) → (∀ (l : Lat w) (b o : Nat), b < w.heap.size → l.x.cell? ⟨b, o, none⟩ = w.cell? ⟨b, o, none⟩) →
      wpQuiet P init.toArray (fun w' => ∃ n : Lat w, w' = n.x) (fun a' => ∀ w', Below w.heap.size w w' → wpList P l.toArray Q [o2, o3] a' w') init a) : (Code.region id l.toArray true).wp P Q a wn := by
  have cut : ∀ (l : List Oper) (o : Oper), l.getLast? = some o → l = l.dropLast ++ [o] := fun l o ho => by
    have hne : l ≠ [] := by intro e; rw [e] at ho; cases ho
    rw [List.getLast?_eq_some_getLast hne] at ho
    rw [← Option.some.inj ho]; exact (List.dropLast_concat_getLast hne).symm
  have hl : l = init ++ [o2, o3] := by
    have c3 := cut l o3 h3
    have c2 := cut l.dropLast o2 h2
    rw [hi] at c2
    rw [c3, c2]
    simp
  rw [hl] at h ⊢
  exact wp_region_lat_tails h0 hm hB h
end Go.LatT
namespace Go.Proofs.Ytdljoopioglkiaa
open Go.RowKit Go.LatT Go.BlockM Go.OpnT Go.WinMath Go.ApdG
set_option linter.unusedVariables false
set_option linter.unusedSimpArgs false
set_option maxHeartbeats 1000000 in
set_option maxRecDepth 100000 in
theorem l5Cells_any (a : Option Addr) (n c : Nat) (E : Nat → Nat → Int) (w : World) (hT : Tab w a n 8 E) (hn : n ≤ 8) (hok : ∀ i, i < n → rbad E i = false) :
    Calls Try.prog 23 #[.slice a n c] w fun e w' => ∃ g' cap, e = .returned (.slice (some ⟨g', 0, none⟩) (cellsE E n).length cap) ∧ w'.ownsRow w.heap.size 30 7 (.slice (some ⟨g', 0, none⟩) (cellsE E n).length cap) (cellsE E n).length (cvL (cellsE E n).reverse) ∧ Below w.heap.size w w' := by
  have HT := hid_in hT; have HO := hid_in hok
  have bx := below_box w (.cells #[] 30)
  have by_ := below_box (w.alloc (.cells #[] 30)) (.cells #[] 60)
  have O0 := hid_in (owns_below (World.ownsRow_lit (base := w.heap.size) (e := 30) (size := 7) w #[] 0 (Nat.le_refl _) (Nat.zero_le _) rfl) by_)
  have Z0 := hid_in (below_later bx by_)
  clear hT hok bx by_
  go_enter Try.func23, Try.ntmps23
  go_wp2_with fail
  have s0 : ((w.alloc (.cells #[] 30)).alloc (.cells #[] 60)).heap.size = w.heap.size + 2 := by simp
  generalize (w.alloc (.cells #[] 30)).alloc (.cells #[] 60) = W0 at *
  refine (l4Of_any a n c E _ 0 0 E W0 (HT.out.later Z0.out) (by omega) HO.out (.inl rfl) (by omega) (fun i hi => by omega)).mono ?_
  rintro e w2 ⟨v0, v1, v2, rfl, i0, i1, i2, hb2⟩
  have hF : Hid ((edg2 E E 0 n 0).length ≤ 17 ∧ Bnd (edg2 E E 0 n 0)) := by show _ ∧ _; have := edgW_len E 0 n [0]; exact ⟨by show (edgW E 0 [0] n).length ≤ 17; simp at this; omega, edgW_bnd 0 [0] (fun x hx => by rw [List.mem_singleton.1 hx]; omega) n HO.out⟩
  have hG : Hid ((edg2 E E 1 n 0).length ≤ 17 ∧ Bnd (edg2 E E 1 n 0)) := by show _ ∧ _; have := edgW_len E 1 n [0]; exact ⟨by show (edgW E 1 [0] n).length ≤ 17; simp at this; omega, edgW_bnd 1 [0] (fun x hx => by rw [List.mem_singleton.1 hx]; omega) n HO.out⟩
  have hP : Hid ((edg2 E E 2 n 0).length ≤ 17 ∧ Bnd (edg2 E E 2 n 0)) := by show _ ∧ _; have := edgW_len E 2 n [0]; exact ⟨by show (edgW E 2 [0] n).length ≤ 17; simp at this; omega, edgW_bnd 2 [0] (fun x hx => by rw [List.mem_singleton.1 hx]; omega) n HO.out⟩
  have CE : Hid (cellsE E n = allP (edg2 E E 0 n 0) (edg2 E E 1 n 0) (edg2 E E 2 n 0) (frstE E n) (edg2 E E 0 n 0).length) := rfl
  generalize edg2 E E 0 n 0 = F at *
  generalize edg2 E E 1 n 0 = T at *
  generalize edg2 E E 2 n 0 = P at *
  obtain ⟨b0, o0, k0, rfl, x01, x02, x03, x04, x05⟩ := i0
  obtain ⟨b1, o1, k1, rfl, x11, x12, x13, x14, x15⟩ := i1
  obtain ⟨b2, o2, k2, rfl, x21, x22, x23, x24, x25⟩ := i2
  have bg := below_box w2 (.cells #[.slice (some ⟨b0, o0, none⟩) F.length k0, .slice (some ⟨b1, o1, none⟩) T.length k1, .slice (some ⟨b2, o2, none⟩) P.length k2] 71)
  have Y0 := hid_in (fun i (hi : i < F.length) => ((bcell bg).1 b0 (o0 + i) x04).trans (x05 i hi))
  have Y1 := hid_in (fun i (hi : i < T.length) => ((bcell bg).1 b1 (o1 + i) x14).trans (x15 i hi))
  have Y2 := hid_in (fun i (hi : i < P.length) => ((bcell bg).1 b2 (o2 + i) x24).trans (x25 i hi))
  have GC : Hid ((w2.alloc (.cells #[.slice (some ⟨b0, o0, none⟩) F.length k0, .slice (some ⟨b1, o1, none⟩) T.length k1, .slice (some ⟨b2, o2, none⟩) P.length k2] 71)).heap[w2.heap.size]? = some (.cells #[.slice (some ⟨b0, o0, none⟩) F.length k0, .slice (some ⟨b1, o1, none⟩) T.length k1, .slice (some ⟨b2, o2, none⟩) P.length k2] 71)) := Go.RegE.heap_new _ _ _ rfl
  have Z2 := hid_in (below_later (below_later Z0.out hb2) bg)
  have O2 := hid_in (owns_below (owns_below O0.out hb2) bg)
  have hs2 := hb2.size
  have S2 : (w2.alloc (.cells #[.slice (some ⟨b0, o0, none⟩) F.length k0, .slice (some ⟨b1, o1, none⟩) T.length k1, .slice (some ⟨b2, o2, none⟩) P.length k2] 71)).heap.size = w2.heap.size + 1 := by simp
  clear x05 x15 x25 bg hb2 Z0 O0
  go_wp2_with fail
  generalize w2.alloc (.cells #[.slice (some ⟨b0, o0, none⟩) F.length k0, .slice (some ⟨b1, o1, none⟩) T.length k1, .slice (some ⟨b2, o2, none⟩) P.length k2] 71) = W2 at *
  have I0 : Hid (CI w.heap.size w W2 [] w.heap.size 0 W2) := by show CI _ _ _ _ _ _ _; exact ⟨O2.out, Z2.out, fun _ _ _ => rfl, Nat.le_refl _, .inl rfl⟩
  have kk0 : (F.length : Int) ≤ 17 := by have := hF.out.1; omega
  have kk1 : (T.length : Int) ≤ 17 := by have := hG.out.1; omega
  have kk2 : (P.length : Int) ≤ 17 := by have := hP.out.1; omega
  clear O2
  go_loopw [3, 5, 6, 7, 8] (fun s iv _ _ _ wr => ∃ (m g cap : Nat), s = .slice (some ⟨g, 0, none⟩) (allP F T P (frstE E n) m).length cap ∧ iv = .int .i64 (m : Int) ∧ m ≤ F.length ∧ Hid (CI w.heap.size w W2 (allP F T P (frstE E n) m) g cap wr)) (fun _ iv _ _ _ _ => F.length - (intOf iv).toNat)
  case atStart => exact ⟨0, w.heap.size, 0, rfl, rfl, Nat.zero_le _, I0⟩
  case round =>
    obtain ⟨m, g, cap, rfl, rfl, hm, HW⟩ := hrel
    have gs := HW.out.size
    have y0 : wr.cell? ⟨w2.heap.size, 0, none⟩ = some (.slice (some ⟨b0, o0, none⟩) F.length k0) := by have := (HW.out.grid w2.heap.size (by omega) (by omega)).trans GC.out; unfold World.cell?; simp [this]
    have y1 : wr.cell? ⟨w2.heap.size, 1, none⟩ = some (.slice (some ⟨b1, o1, none⟩) T.length k1) := by have := (HW.out.grid w2.heap.size (by omega) (by omega)).trans GC.out; unfold World.cell?; simp [this]
    have y2 : wr.cell? ⟨w2.heap.size, 2, none⟩ = some (.slice (some ⟨b2, o2, none⟩) P.length k2) := by have := (HW.out.grid w2.heap.size (by omega) (by omega)).trans GC.out; unfold World.cell?; simp [this]
    have gz : w2.heap.size < wr.heap.size := by omega
    by_cases hd : m < F.length
    · have hd' : (m : Int) < (F.length : Int) := by omega
      have ln1 := allP_len F T P (frstE E n) m
      have LN1 : Hid ((allP F T P (frstE E n) m).length ≤ 5000) := by
        show _ ≤ _
        have h1 := hG.out.1; have h2 := hP.out.1; have h3 := hF.out.1
        have h4 : T.length * P.length ≤ 17 * 17 := Nat.mul_le_mul h1 h2
        have h5 : m * (T.length * P.length) ≤ 17 * (17 * 17) := Nat.mul_le_mul (by omega) h4
        omega
      have HB1 := hid_in (allP_hb (F := F) (T := T) (f := frstE E n) hP.out.2 m)
      clear ln1
      have J0 : Hid (CI w.heap.size w W2 (colP F T P (frstE E n) m 0 (allP F T P (frstE E n) m)) g cap wr) := HW
      go_wp2_with fail
      go_loopw [3, 6, 7, 8] (fun s kv _ _ wr => ∃ (k g cap : Nat), s = .slice (some ⟨g, 0, none⟩) (colP F T P (frstE E n) m k (allP F T P (frstE E n) m)).length cap ∧ kv = .int .i64 (k : Int) ∧ k ≤ T.length ∧ Hid (CI w.heap.size w W2 (colP F T P (frstE E n) m k (allP F T P (frstE E n) m)) g cap wr)) (fun _ kv _ _ _ => T.length - (intOf kv).toNat)
      case atStart => exact ⟨0, g, cap, rfl, rfl, Nat.zero_le _, J0⟩
      case round =>
        clear HW J0 gs y0 y1 y2 gz
        obtain ⟨k, g, cap, rfl, rfl, hk, HW⟩ := hrel
        have gs := HW.out.size
        have y0 : wr.cell? ⟨w2.heap.size, 0, none⟩ = some (.slice (some ⟨b0, o0, none⟩) F.length k0) := by have := (HW.out.grid w2.heap.size (by omega) (by omega)).trans GC.out; unfold World.cell?; simp [this]
        have y1 : wr.cell? ⟨w2.heap.size, 1, none⟩ = some (.slice (some ⟨b1, o1, none⟩) T.length k1) := by have := (HW.out.grid w2.heap.size (by omega) (by omega)).trans GC.out; unfold World.cell?; simp [this]
        have y2 : wr.cell? ⟨w2.heap.size, 2, none⟩ = some (.slice (some ⟨b2, o2, none⟩) P.length k2) := by have := (HW.out.grid w2.heap.size (by omega) (by omega)).trans GC.out; unfold World.cell?; simp [this]
        have gz : w2.heap.size < wr.heap.size := by omega
        by_cases hd2 : k < T.length
        · have hd2' : (k : Int) < (T.length : Int) := by omega
          have ln2 := colP_len F T P (frstE E n) m (allP F T P (frstE E n) m) k
          have LN2 : Hid ((colP F T P (frstE E n) m k (allP F T P (frstE E n) m)).length ≤ 5300) := by
            show _ ≤ _
            have h1 := hG.out.1; have h2 := hP.out.1; have h3 := LN1.out
            have h5 : k * P.length ≤ 17 * 17 := Nat.mul_le_mul (by omega) h2
            omega
          have HB2 := hid_in (colP_hb (F := F) (T := T) (f := frstE E n) (i := m) HB1.out hP.out.2 k)
          clear ln2
          have J0 : Hid (CI w.heap.size w W2 (rowP F T P (frstE E n) m k 0 (colP F T P (frstE E n) m k (allP F T P (frstE E n) m))) g cap wr) := HW
          obtain ⟨out2, hout2⟩ : ∃ o, colP F T P (frstE E n) m k (allP F T P (frstE E n) m) = o := ⟨_, rfl⟩
          have HO2 := hid_in hout2
          rw [hout2] at LN2 HB2 J0 HW ⊢
          clear hout2
          go_wp2_with fail
          go_loopw [3, 7, 8] (fun s jv _ wr => ∃ (j g cap : Nat), s = .slice (some ⟨g, 0, none⟩) (rowP F T P (frstE E n) m k j out2).length cap ∧ jv = .int .i64 (j : Int) ∧ j ≤ P.length ∧ Hid (CI w.heap.size w W2 (rowP F T P (frstE E n) m k j out2) g cap wr)) (fun _ jv _ _ => P.length - (intOf jv).toNat)
          case atStart => exact ⟨0, g, cap, rfl, rfl, Nat.zero_le _, J0⟩
          case round =>
            clear HW J0 gs y0 y1 y2 gz
            obtain ⟨j, g, cap, rfl, rfl, hjP, HW⟩ := hrel
            have gs := HW.out.size
            have y0 : wr.cell? ⟨w2.heap.size, 0, none⟩ = some (.slice (some ⟨b0, o0, none⟩) F.length k0) := by have := (HW.out.grid w2.heap.size (by omega) (by omega)).trans GC.out; unfold World.cell?; simp [this]
            have y1 : wr.cell? ⟨w2.heap.size, 1, none⟩ = some (.slice (some ⟨b1, o1, none⟩) T.length k1) := by have := (HW.out.grid w2.heap.size (by omega) (by omega)).trans GC.out; unfold World.cell?; simp [this]
            have y2 : wr.cell? ⟨w2.heap.size, 2, none⟩ = some (.slice (some ⟨b2, o2, none⟩) P.length k2) := by have := (HW.out.grid w2.heap.size (by omega) (by omega)).trans GC.out; unfold World.cell?; simp [this]
            have gz : w2.heap.size < wr.heap.size := by omega
            by_cases hd3 : j < P.length
            · have hd3' : (j : Int) < (P.length : Int) := by omega
              have ln3 := rowP_len F T P (frstE E n) m k out2 j
              have LN3 : Hid ((rowP F T P (frstE E n) m k j out2).length ≤ 6000) := by
                show _ ≤ _
                have h1 := hP.out.1; have h2 := LN2.out
                omega
              have HB3 := hid_in (rowP_hb (F := F) (T := T) (f := frstE E n) (i := m) (k := k) HB2.out hP.out.2 j)
              clear ln3
              have ST : Hid (rowP F T P (frstE E n) m k (j + 1) out2 = stepP F T P (frstE E n) m k j (rowP F T P (frstE E n) m k j out2)) := rfl
              generalize rowP F T P (frstE E n) m k j out2 = out3 at *
              have g0 := (HW.out.cell b0 (o0 + m) (by omega) (by omega)).trans (Y0.out m hd)
              have g1 := (HW.out.cell b1 (o1 + k) (by omega) (by omega)).trans (Y1.out k hd2)
              have g2 := (HW.out.cell b2 (o2 + j) (by omega) (by omega)).trans (Y2.out j hd3)
              have SV : Hid (stepP F T P (frstE E n) m k j out3 = if 0 ≤ frstE E n (F.getD m 0) (T.getD k 0) (P.getD j 0) then joinR out3 ⟨F.getD m 0, endAt F 4294967295 m, T.getD k 0, endAt T 4294967295 k, P.getD j 0, endAt P 65535 j, frstE E n (F.getD m 0) (T.getD k 0) (P.getD j 0)⟩ else out3) := rfl
              have CF := hid_in (fun W => l4FirstF a n c E (F.getD m 0) (T.getD k 0) (P.getD j 0) W)
              generalize hxe : F.getD m 0 = x at *
              have Xx := hid_in hxe
              clear hxe
              generalize hye : T.getD k 0 = y at *
              have Xy := hid_in hye
              clear hye
              generalize hze : P.getD j 0 = z at *
              have Xz := hid_in hze
              clear hze
              generalize frstE E n x y z = v at *
              have T3 := hid_in (HT.out.later HW.out.below)
              have lz0 : b0 < wr.heap.size := by have := HW.out.size; omega
              have lz1 : b1 < wr.heap.size := by have := HW.out.size; omega
              have lz2 : b2 < wr.heap.size := by have := HW.out.size; omega
              go_wp2_with fail
              refine wp_region_lat (Below.refl _ _) (by kernel_rfl) (by kernel_rfl) ?_
              intro hne hcl
              repeat (go_big_quiet_step (first | (go_at_call 34; exact lat_of (CF.out _ (T3.out.later (Lat.h _)) (by omega) HO.out))))
              refine wpQuiet_nil ?_
              intro w1 hb1
              obtain ⟨hc1, hf1⟩ := bcell hb1
              clear hne hcl
              have C1 := hid_in (HW.out.later (by have := HW.out.size; omega) hb1)
              have T1 := hid_in (T3.out.later hb1)
              clear HW gs y0 y1 y2 gz g0 g1 g2 hb1 hc1 hf1 lz0 lz1 lz2
              have gs := C1.out.size
              have y0 : w1.cell? ⟨w2.heap.size, 0, none⟩ = some (.slice (some ⟨b0, o0, none⟩) F.length k0) := by have := (C1.out.grid w2.heap.size (by omega) (by omega)).trans GC.out; unfold World.cell?; simp [this]
              have y1 : w1.cell? ⟨w2.heap.size, 1, none⟩ = some (.slice (some ⟨b1, o1, none⟩) T.length k1) := by have := (C1.out.grid w2.heap.size (by omega) (by omega)).trans GC.out; unfold World.cell?; simp [this]
              have y2 : w1.cell? ⟨w2.heap.size, 2, none⟩ = some (.slice (some ⟨b2, o2, none⟩) P.length k2) := by have := (C1.out.grid w2.heap.size (by omega) (by omega)).trans GC.out; unfold World.cell?; simp [this]
              have gz : w2.heap.size < w1.heap.size := by omega
              by_cases hv : v < 0
              · have hv' : decide (0 ≤ v) = false := by simp; omega
                go_wp2_with fail
                refine ⟨⟨j + 1, g, cap, ?_, by simp, by omega, ?_⟩, by simp [intOf]; omega⟩
                · rw [ST.out, SV.out, if_neg (by omega)]
                · show CI _ _ _ _ _ _ _
                  rw [ST.out, SV.out, if_neg (by omega)]
                  exact C1.out
              · have hv' : 0 ≤ v := by omega
                have g0 : w1.cell? ⟨b0, o0 + m, none⟩ = some (.int .i64 x) := (C1.out.cell b0 (o0 + m) (by omega) (by omega)).trans ((Y0.out m hd).trans (by rw [Xx.out]))
                have g1 : w1.cell? ⟨b1, o1 + k, none⟩ = some (.int .i64 y) := (C1.out.cell b1 (o1 + k) (by omega) (by omega)).trans ((Y1.out k hd2).trans (by rw [Xy.out]))
                have g2 : w1.cell? ⟨b2, o2 + j, none⟩ = some (.int .i64 z) := (C1.out.cell b2 (o2 + j) (by omega) (by omega)).trans ((Y2.out j hd3).trans (by rw [Xz.out]))
                have lz0 : b0 < w1.heap.size := by omega
                have lz1 : b1 < w1.heap.size := by omega
                have lz2 : b2 < w1.heap.size := by omega
                have IF := hid_in (show IL w1 (.slice (some ⟨b0, o0, none⟩) F.length k0) F from ⟨_, k0, rfl, x01, .inr ⟨b0, o0, rfl, lz0, fun i hi => (C1.out.cell b0 (o0 + i) (by omega) (by omega)).trans (Y0.out i hi)⟩⟩)
                have IT := hid_in (show IL w1 (.slice (some ⟨b1, o1, none⟩) T.length k1) T from ⟨_, k1, rfl, x11, .inr ⟨b1, o1, rfl, lz1, fun i hi => (C1.out.cell b1 (o1 + i) (by omega) (by omega)).trans (Y1.out i hi)⟩⟩)
                have IP := hid_in (show IL w1 (.slice (some ⟨b2, o2, none⟩) P.length k2) P from ⟨_, k2, rfl, x21, .inr ⟨b2, o2, rfl, lz2, fun i hi => (C1.out.cell b2 (o2 + i) (by omega) (by omega)).trans (Y2.out i hi)⟩⟩)
                go_wp2_with fail
                refine wp_region_lat_tail2 (Below.refl _ _) (by kernel_rfl) (by dsimp only [List.dropLast]) (by dsimp only [List.dropLast]; simp only [List.getLast?_cons_cons, List.getLast?_singleton]; rfl) (by simp only [List.getLast?_cons_cons, List.getLast?_singleton]; rfl) (by kernel_rfl) ?_
                intro hne hcl
                repeat (go_big_quiet_step (first | (go_at_call_of 36 (Value.slice (some ⟨b0, o0, none⟩) F.length k0); exact lat_same (l5To_any _ F m 4294967295 _ (IF.out.later (Lat.h _)) (by have := hF.out.1; omega) hd (fun x hx => (hF.out.2 x hx).1) (fun x hx => by have := (hF.out.2 x hx).2; omega))) | (go_at_call_of 36 (Value.slice (some ⟨b1, o1, none⟩) T.length k1); exact lat_same (l5To_any _ T k 4294967295 _ (IT.out.later (Lat.h _)) (by have := hG.out.1; omega) hd2 (fun x hx => (hG.out.2 x hx).1) (fun x hx => by have := (hG.out.2 x hx).2; omega))) | (go_at_call_of 36 (Value.slice (some ⟨b2, o2, none⟩) P.length k2); exact lat_same (l5To_any _ P j 65535 _ (IP.out.later (Lat.h _)) (by have := hP.out.1; omega) hd3 (fun x hx => (hP.out.2 x hx).1) (fun x hx => by have := (hP.out.2 x hx).2; omega)))))
                refine wpQuiet_nil ?_
                intro w4 hb4
                clear hne hcl
                have C4 := hid_in (C1.out.later (by have := C1.out.size; omega) hb4)
                clear C1 hb4 gs y0 y1 y2 gz g0 g1 g2 lz0 lz1 lz2 IF IT IP
                go_wp2_with fail
                refine (l5Join_any w.heap.size g cap out3 ⟨x, endAt F 4294967295 m, y, endAt T 4294967295 k, z, endAt P 65535 j, v⟩ _ (by have := C4.out.size; omega) (by have := LN3.out; omega) HB3.out C4.out.own).mono ?_
                rintro e w5 hj5
                obtain ⟨g5, cap5, rfl, C5⟩ := C4.out.join (by omega) hj5
                have H5 := hid_in C5
                clear C5 hj5 C4
                go_wp2_with fail
                refine ⟨⟨j + 1, g5, cap5, ?_, by simp, by omega, ?_⟩, by simp [intOf]; omega⟩
                · rw [ST.out, SV.out, if_pos hv']
                · show CI _ _ _ _ _ _ _
                  rw [ST.out, SV.out, if_pos hv']
                  exact H5.out
            · have hd3' : decide ((j : Int) < (P.length : Int)) = false := by simp; omega
              obtain rfl : j = P.length := by omega
              go_wp2_with fail
              refine ⟨⟨k + 1, g, cap, ?_, by simp, by omega, ?_⟩, by simp [intOf]; omega⟩
              · show _ = Value.slice _ (rowP F T P (frstE E n) m k P.length (colP F T P (frstE E n) m k (allP F T P (frstE E n) m))).length cap
                rw [HO2.out]
              · show CI _ _ _ (rowP F T P (frstE E n) m k P.length (colP F T P (frstE E n) m k (allP F T P (frstE E n) m))) _ _ _
                rw [HO2.out]
                exact HW.out
        · have hd2' : decide ((k : Int) < (T.length : Int)) = false := by simp; omega
          obtain rfl : k = T.length := by omega
          go_wp2_with fail
          exact ⟨⟨m + 1, g, cap, rfl, by simp, by omega, HW⟩, by simp [intOf]; omega⟩
    · have hd' : decide ((m : Int) < (F.length : Int)) = false := by simp; omega
      obtain rfl : m = F.length := by omega
      go_wp2_with fail
      go_ret
      rw [CE.out]
      exact ⟨g, cap, rfl, HW.out.own, HW.out.below⟩
end Go.Proofs.Ytdljoopioglkiaa
