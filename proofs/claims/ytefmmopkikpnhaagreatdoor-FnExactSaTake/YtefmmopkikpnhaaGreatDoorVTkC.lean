/- What is proved: the contracts of TakC, one behind the other. The conditions stand at each theorem. -/
import Derived.Test.YtefmmopkikpnhaaGreatDoorVTkA
namespace Go.Proofs.YtefmmopkikpnhaaGreatDoor
open Go.RowKit Go.LatT Go.BlockM Go.PlainAid Go.OpnT Go.ApdG Go.BytM Go.AesM Go.RowQ Go.WinMath
set_option linter.unusedVariables false
set_option linter.unusedSimpArgs false
set_option maxHeartbeats 4000000 in
set_option maxRecDepth 100000 in
theorem ktake_1 (g base : Nat) (x : SaV) (a : Option Addr) (cap : Nat) (L : List Int) (now : Int) (t : ByteArray) (w : World) (hK : GK w) (hE : ErrT w) (hg : 2 < g) (hB : SaBox w g x (.slice a L.length cap)) (ho : w.ownsRow base 3 1 (.slice a L.length cap) L.length (i64s L)) (hn : (Value.slice a L.length cap).ownBlock ≠ some g) (hbw : base ≤ w.heap.size) (hl : L.length ≤ 100) (hx : saB x = true) (ht : t.size ≤ 1048576) (h1 : fhB t = false) :
    Calls Tryz.prog 74 #[.pointer (some ⟨g, 0, none⟩), .int .i64 now, .string t] w (TkB g base (.slice a L.length cap) x L now t w) := by
  have HK := hid_in hK; have HE := hid_in hE; have HB := hid_in hB; have HO := hid_in ho; have HN := hid_in hn; have HX := hid_in hx
  have FH := hid_in (fun W (er : ErrT W) => frameHeadI t W ht er)
  clear hK hE hB ho hn
  have TK := hid_in (show tkK x L now t = 1 by unfold tkK; rw [if_pos h1])
  rw [h1] at FH
  clear h1 hx
  go_enter Tryz.func74, Tryz.ntmps74
  go_wp2_with fail
  refine (FH.out _ HE.out).mono ?_
  rintro e wa ⟨rfl, hba⟩
  have Ba := hid_in (HB.out.later hba); have Oa := hid_in (owns_below HO.out hba); have Ma := hid_in (Mv.of_below (R := g) hba); have Ka := hid_in (HK.out.below hba HK.out.lt); have Ea := hid_in (HE.out.later hba)
  have hza := hba.size
  clear hba HB HO FH
  obtain ⟨l0, p0, p1, p2, p3, p4, p5, p6, p7, p8, p9, p10, pf⟩ := Ba.out
  go_wp2_with fail
  go_ret2
  exact TkB_no TK.out (by decide) Ba.out Oa.out Ma.out HN.out
set_option maxHeartbeats 4000000 in
set_option maxRecDepth 100000 in
theorem ktake_2 (g base : Nat) (x : SaV) (a : Option Addr) (cap : Nat) (L : List Int) (now : Int) (t : ByteArray) (w : World) (hK : GK w) (hE : ErrT w) (hg : 2 < g) (hB : SaBox w g x (.slice a L.length cap)) (ho : w.ownsRow base 3 1 (.slice a L.length cap) L.length (i64s L)) (hn : (Value.slice a L.length cap).ownBlock ≠ some g) (hbw : base ≤ w.heap.size) (hl : L.length ≤ 100) (hx : saB x = true) (ht : t.size ≤ 1048576) (h1 : fhB t = true) (h2 : ¬ fhN t 0 4 = x.spi) :
    Calls Tryz.prog 74 #[.pointer (some ⟨g, 0, none⟩), .int .i64 now, .string t] w (TkB g base (.slice a L.length cap) x L now t w) := by
  have HK := hid_in hK; have HE := hid_in hE; have HB := hid_in hB; have HO := hid_in ho; have HN := hid_in hn; have HX := hid_in hx
  have FH := hid_in (fun W (er : ErrT W) => frameHeadI t W ht er)
  clear hK hE hB ho hn
  have TK := hid_in (show tkK x L now t = 2 by unfold tkK; rw [if_neg (by rw [h1]; decide), if_pos h2])
  rw [h1] at FH
  clear h1 hx
  have h2' : decide (fhN t 0 4 = x.spi) = false := by simpa using h2
  have h2'' : (fhN t 0 4 != x.spi) = true := by simpa using h2
  go_enter Tryz.func74, Tryz.ntmps74
  go_wp2_with fail
  refine (FH.out _ HE.out).mono ?_
  rintro e wa ⟨rfl, hba⟩
  have Ba := hid_in (HB.out.later hba); have Oa := hid_in (owns_below HO.out hba); have Ma := hid_in (Mv.of_below (R := g) hba); have Ka := hid_in (HK.out.below hba HK.out.lt); have Ea := hid_in (HE.out.later hba)
  have hza := hba.size
  clear hba HB HO FH
  obtain ⟨l0, p0, p1, p2, p3, p4, p5, p6, p7, p8, p9, p10, pf⟩ := Ba.out
  go_wp2_with fail
  go_ret2
  exact TkB_no TK.out (by decide) Ba.out Oa.out Ma.out HN.out
set_option maxHeartbeats 4000000 in
set_option maxRecDepth 100000 in
theorem ktake_3 (g base : Nat) (x : SaV) (a : Option Addr) (cap : Nat) (L : List Int) (now : Int) (t : ByteArray) (w : World) (hK : GK w) (hE : ErrT w) (hg : 2 < g) (hB : SaBox w g x (.slice a L.length cap)) (ho : w.ownsRow base 3 1 (.slice a L.length cap) L.length (i64s L)) (hn : (Value.slice a L.length cap).ownBlock ≠ some g) (hbw : base ≤ w.heap.size) (hl : L.length ≤ 100) (hx : saB x = true) (ht : t.size ≤ 1048576) (h1 : fhB t = true) (h2 : fhN t 0 4 = x.spi) (h3 : x.since + 2 * x.ticks ≤ now) :
    Calls Tryz.prog 74 #[.pointer (some ⟨g, 0, none⟩), .int .i64 now, .string t] w (TkB g base (.slice a L.length cap) x L now t w) := by
  have HK := hid_in hK; have HE := hid_in hE; have HB := hid_in hB; have HO := hid_in ho; have HN := hid_in hn; have HX := hid_in hx
  have FH := hid_in (fun W (er : ErrT W) => frameHeadI t W ht er)
  clear hK hE hB ho hn
  have TK := hid_in (show tkK x L now t = 3 by unfold tkK; rw [if_neg (by rw [h1]; decide), if_neg (fun h => h h2), if_pos (.inl h3)])
  have OV : Hid (decide (x.since + 2 * x.ticks ≤ now) = true) := by show _ = _; simpa using h3
  rw [h1, h2] at FH
  clear h1 h2 hx
  go_enter Tryz.func74, Tryz.ntmps74
  go_wp2_with fail
  refine (FH.out _ HE.out).mono ?_
  rintro e wa ⟨rfl, hba⟩
  have Ba := hid_in (HB.out.later hba); have Oa := hid_in (owns_below HO.out hba); have Ma := hid_in (Mv.of_below (R := g) hba); have Ka := hid_in (HK.out.below hba HK.out.lt); have Ea := hid_in (HE.out.later hba)
  have hza := hba.size
  clear hba HB HO FH
  obtain ⟨l0, p0, p1, p2, p3, p4, p5, p6, p7, p8, p9, p10, pf⟩ := Ba.out
  go_wp2_with fail
  refine (kover_any g x _ now _ Ba.out HX.out _ OV.out).mono ?_
  rintro e wb ⟨rfl, hbb⟩
  have Bb := hid_in (Ba.out.later hbb); have Ob := hid_in (owns_below Oa.out hbb); have Mb := hid_in (Ma.out.later hbb); have Kb := hid_in (Ka.out.below hbb Ka.out.lt); have Eb := hid_in (Ea.out.later hbb)
  have hzb := hbb.size
  clear hbb l0 p0 p1 p2 p3 p4 p5 p6 p7 p8 p9 p10 pf Ba Oa Ma Ka Ea
  obtain ⟨l0, p0, p1, p2, p3, p4, p5, p6, p7, p8, p9, p10, pf⟩ := Bb.out
  go_wp2_with fail
  go_ret2
  exact TkB_no TK.out (by decide) Bb.out Ob.out Mb.out HN.out
set_option maxHeartbeats 4000000 in
set_option maxRecDepth 100000 in
theorem ktake_3b (g base : Nat) (x : SaV) (a : Option Addr) (cap : Nat) (L : List Int) (now : Int) (t : ByteArray) (w : World) (hK : GK w) (hE : ErrT w) (hg : 2 < g) (hB : SaBox w g x (.slice a L.length cap)) (ho : w.ownsRow base 3 1 (.slice a L.length cap) L.length (i64s L)) (hn : (Value.slice a L.length cap).ownBlock ≠ some g) (hbw : base ≤ w.heap.size) (hl : L.length ≤ 100) (hx : saB x = true) (ht : t.size ≤ 1048576) (h1 : fhB t = true) (h2 : fhN t 0 4 = x.spi) (h3 : ¬ x.since + 2 * x.ticks ≤ now) (h4 : x.hard < fhN t 4 8) :
    Calls Tryz.prog 74 #[.pointer (some ⟨g, 0, none⟩), .int .i64 now, .string t] w (TkB g base (.slice a L.length cap) x L now t w) := by
  have HK := hid_in hK; have HE := hid_in hE; have HB := hid_in hB; have HO := hid_in ho; have HN := hid_in hn; have HX := hid_in hx
  have FH := hid_in (fun W (er : ErrT W) => frameHeadI t W ht er)
  clear hK hE hB ho hn
  have TK := hid_in (show tkK x L now t = 3 by unfold tkK; rw [if_neg (by rw [h1]; decide), if_neg (fun h => h h2), if_pos (.inr h4)])
  have OV : Hid (decide (x.since + 2 * x.ticks ≤ now) = false) := by show _ = _; simpa using h3
  rw [h1, h2] at FH
  clear h1 h2 hx
  go_enter Tryz.func74, Tryz.ntmps74
  go_wp2_with fail
  refine (FH.out _ HE.out).mono ?_
  rintro e wa ⟨rfl, hba⟩
  have Ba := hid_in (HB.out.later hba); have Oa := hid_in (owns_below HO.out hba); have Ma := hid_in (Mv.of_below (R := g) hba); have Ka := hid_in (HK.out.below hba HK.out.lt); have Ea := hid_in (HE.out.later hba)
  have hza := hba.size
  clear hba HB HO FH
  obtain ⟨l0, p0, p1, p2, p3, p4, p5, p6, p7, p8, p9, p10, pf⟩ := Ba.out
  go_wp2_with fail
  refine (kover_any g x _ now _ Ba.out HX.out _ OV.out).mono ?_
  rintro e wb ⟨rfl, hbb⟩
  have Bb := hid_in (Ba.out.later hbb); have Ob := hid_in (owns_below Oa.out hbb); have Mb := hid_in (Ma.out.later hbb); have Kb := hid_in (Ka.out.below hbb Ka.out.lt); have Eb := hid_in (Ea.out.later hbb)
  have hzb := hbb.size
  clear hbb l0 p0 p1 p2 p3 p4 p5 p6 p7 p8 p9 p10 pf Ba Oa Ma Ka Ea
  obtain ⟨l0, p0, p1, p2, p3, p4, p5, p6, p7, p8, p9, p10, pf⟩ := Bb.out
  go_wp2_with fail
  go_ret2
  exact TkB_no TK.out (by decide) Bb.out Ob.out Mb.out HN.out
set_option maxHeartbeats 4000000 in
set_option maxRecDepth 100000 in
theorem ktake_4 (g base : Nat) (x : SaV) (a : Option Addr) (cap : Nat) (L : List Int) (now : Int) (t : ByteArray) (w : World) (hK : GK w) (hE : ErrT w) (hg : 2 < g) (hB : SaBox w g x (.slice a L.length cap)) (ho : w.ownsRow base 3 1 (.slice a L.length cap) L.length (i64s L)) (hn : (Value.slice a L.length cap).ownBlock ≠ some g) (hbw : base ≤ w.heap.size) (hl : L.length ≤ 100) (hx : saB x = true) (ht : t.size ≤ 1048576) (hw : WOk x.top L.length (gE L)) (h1 : fhB t = true) (h2 : fhN t 0 4 = x.spi) (h3 : ¬ x.since + 2 * x.ticks ≤ now) (h4 : ¬ x.hard < fhN t 4 8) (h5 : codeL x.top L (fhN t 4 8) = 2) :
    Calls Tryz.prog 74 #[.pointer (some ⟨g, 0, none⟩), .int .i64 now, .string t] w (TkB g base (.slice a L.length cap) x L now t w) := by
  have HK := hid_in hK; have HE := hid_in hE; have HB := hid_in hB; have HO := hid_in ho; have HN := hid_in hn; have HX := hid_in hx
  have FH := hid_in (fun W (er : ErrT W) => frameHeadI t W ht er)
  clear hK hE hB ho hn
  have TK := hid_in (show tkK x L now t = 4 by unfold tkK; rw [if_neg (by rw [h1]; decide), if_neg (fun h => h h2), if_neg (fun h => h.elim h3 h4), if_pos h5])
  have OV : Hid (decide (x.since + 2 * x.ticks ≤ now) = false) := by show _ = _; simpa using h3
  rw [h1, h2] at FH
  have h4' : decide (x.hard < fhN t 4 8) = false := by simpa using h4
  have SE : Hid (∀ W, IL W (.slice a L.length cap) L → Calls Tryz.prog 124 #[.agg #[.int .i64 x.top, .slice a L.length cap], .int .i64 (fhN t 4 8)] W (SeeR x.top (fhN t 4 8) L W)) := fun W h => windowSeeR x.top (fhN t 4 8) L _ W h (by omega) hw
  unfold SeeR at SE
  rw [h5] at SE
  clear h1 h2 hw h5 hx
  generalize topL x.top L (fhN t 4 8) = TT at *
  generalize listL x.top L (fhN t 4 8) = M at *
  generalize codeL x.top L (fhN t 4 8) = cc at *
  go_enter Tryz.func74, Tryz.ntmps74
  go_wp2_with fail
  refine (FH.out _ HE.out).mono ?_
  rintro e wa ⟨rfl, hba⟩
  have Ba := hid_in (HB.out.later hba); have Oa := hid_in (owns_below HO.out hba); have Ma := hid_in (Mv.of_below (R := g) hba); have Ka := hid_in (HK.out.below hba HK.out.lt); have Ea := hid_in (HE.out.later hba)
  have hza := hba.size
  clear hba HB HO FH
  obtain ⟨l0, p0, p1, p2, p3, p4, p5, p6, p7, p8, p9, p10, pf⟩ := Ba.out
  go_wp2_with fail
  refine (kover_any g x _ now _ Ba.out HX.out _ OV.out).mono ?_
  rintro e wb ⟨rfl, hbb⟩
  have Bb := hid_in (Ba.out.later hbb); have Ob := hid_in (owns_below Oa.out hbb); have Mb := hid_in (Ma.out.later hbb); have Kb := hid_in (Ka.out.below hbb Ka.out.lt); have Eb := hid_in (Ea.out.later hbb)
  have hzb := hbb.size
  clear hbb l0 p0 p1 p2 p3 p4 p5 p6 p7 p8 p9 p10 pf Ba Oa Ma Ka Ea
  obtain ⟨l0, p0, p1, p2, p3, p4, p5, p6, p7, p8, p9, p10, pf⟩ := Bb.out
  go_wp2_with fail
  refine (SE.out _ (owns_il Ob.out)).mono ?_
  rintro e wc ⟨a5, c5, rfl, o5, hbc⟩
  have Bc := hid_in (Bb.out.later hbc); have Oc := hid_in (owns_below Ob.out hbc); have Mc := hid_in (Mb.out.later hbc); have Kc := hid_in (Kb.out.below hbc Kb.out.lt); have Ec := hid_in (Eb.out.later hbc)
  have O5 := hid_in o5
  have hzc := hbc.size
  have hgb := Bb.out.lt
  clear hbc o5 l0 p0 p1 p2 p3 p4 p5 p6 p7 p8 p9 p10 pf Bb Ob Mb Kb Eb SE
  obtain ⟨l0, p0, p1, p2, p3, p4, p5, p6, p7, p8, p9, p10, pf⟩ := Bc.out
  go_wp2_with fail
  go_ret2
  exact TkB_no TK.out (by decide) (Bc.out.later (below_box _ (.cells #[.int .i64 TT, .slice a5 M.length c5] 43))) (owns_below Oc.out (below_box _ (.cells #[.int .i64 TT, .slice a5 M.length c5] 43))) (Mc.out.later (below_box _ (.cells #[.int .i64 TT, .slice a5 M.length c5] 43))) HN.out
set_option maxHeartbeats 4000000 in
set_option maxRecDepth 100000 in
theorem ktake_5 (g base : Nat) (x : SaV) (a : Option Addr) (cap : Nat) (L : List Int) (now : Int) (t : ByteArray) (w : World) (hK : GK w) (hE : ErrT w) (hg : 2 < g) (hB : SaBox w g x (.slice a L.length cap)) (ho : w.ownsRow base 3 1 (.slice a L.length cap) L.length (i64s L)) (hn : (Value.slice a L.length cap).ownBlock ≠ some g) (hbw : base ≤ w.heap.size) (hl : L.length ≤ 100) (hx : saB x = true) (ht : t.size ≤ 1048576) (hw : WOk x.top L.length (gE L)) (h1 : fhB t = true) (h2 : fhN t 0 4 = x.spi) (h3 : ¬ x.since + 2 * x.ticks ≤ now) (h4 : ¬ x.hard < fhN t 4 8) (h5 : codeL x.top L (fhN t 4 8) = 3) :
    Calls Tryz.prog 74 #[.pointer (some ⟨g, 0, none⟩), .int .i64 now, .string t] w (TkB g base (.slice a L.length cap) x L now t w) := by
  have HK := hid_in hK; have HE := hid_in hE; have HB := hid_in hB; have HO := hid_in ho; have HN := hid_in hn; have HX := hid_in hx
  have FH := hid_in (fun W (er : ErrT W) => frameHeadI t W ht er)
  clear hK hE hB ho hn
  have TK := hid_in (show tkK x L now t = 5 by unfold tkK; rw [if_neg (by rw [h1]; decide), if_neg (fun h => h h2), if_neg (fun h => h.elim h3 h4), if_neg (by rw [h5]; decide), if_pos h5])
  have OV : Hid (decide (x.since + 2 * x.ticks ≤ now) = false) := by show _ = _; simpa using h3
  rw [h1, h2] at FH
  have h4' : decide (x.hard < fhN t 4 8) = false := by simpa using h4
  have SE : Hid (∀ W, IL W (.slice a L.length cap) L → Calls Tryz.prog 124 #[.agg #[.int .i64 x.top, .slice a L.length cap], .int .i64 (fhN t 4 8)] W (SeeR x.top (fhN t 4 8) L W)) := fun W h => windowSeeR x.top (fhN t 4 8) L _ W h (by omega) hw
  unfold SeeR at SE
  rw [h5] at SE
  clear h1 h2 hw h5 hx
  generalize topL x.top L (fhN t 4 8) = TT at *
  generalize listL x.top L (fhN t 4 8) = M at *
  generalize codeL x.top L (fhN t 4 8) = cc at *
  go_enter Tryz.func74, Tryz.ntmps74
  go_wp2_with fail
  refine (FH.out _ HE.out).mono ?_
  rintro e wa ⟨rfl, hba⟩
  have Ba := hid_in (HB.out.later hba); have Oa := hid_in (owns_below HO.out hba); have Ma := hid_in (Mv.of_below (R := g) hba); have Ka := hid_in (HK.out.below hba HK.out.lt); have Ea := hid_in (HE.out.later hba)
  have hza := hba.size
  clear hba HB HO FH
  obtain ⟨l0, p0, p1, p2, p3, p4, p5, p6, p7, p8, p9, p10, pf⟩ := Ba.out
  go_wp2_with fail
  refine (kover_any g x _ now _ Ba.out HX.out _ OV.out).mono ?_
  rintro e wb ⟨rfl, hbb⟩
  have Bb := hid_in (Ba.out.later hbb); have Ob := hid_in (owns_below Oa.out hbb); have Mb := hid_in (Ma.out.later hbb); have Kb := hid_in (Ka.out.below hbb Ka.out.lt); have Eb := hid_in (Ea.out.later hbb)
  have hzb := hbb.size
  clear hbb l0 p0 p1 p2 p3 p4 p5 p6 p7 p8 p9 p10 pf Ba Oa Ma Ka Ea
  obtain ⟨l0, p0, p1, p2, p3, p4, p5, p6, p7, p8, p9, p10, pf⟩ := Bb.out
  go_wp2_with fail
  refine (SE.out _ (owns_il Ob.out)).mono ?_
  rintro e wc ⟨a5, c5, rfl, o5, hbc⟩
  have Bc := hid_in (Bb.out.later hbc); have Oc := hid_in (owns_below Ob.out hbc); have Mc := hid_in (Mb.out.later hbc); have Kc := hid_in (Kb.out.below hbc Kb.out.lt); have Ec := hid_in (Eb.out.later hbc)
  have O5 := hid_in o5
  have hzc := hbc.size
  have hgb := Bb.out.lt
  clear hbc o5 l0 p0 p1 p2 p3 p4 p5 p6 p7 p8 p9 p10 pf Bb Ob Mb Kb Eb SE
  obtain ⟨l0, p0, p1, p2, p3, p4, p5, p6, p7, p8, p9, p10, pf⟩ := Bc.out
  go_wp2_with fail
  go_ret2
  exact TkB_no TK.out (by decide) (Bc.out.later (below_box _ (.cells #[.int .i64 TT, .slice a5 M.length c5] 43))) (owns_below Oc.out (below_box _ (.cells #[.int .i64 TT, .slice a5 M.length c5] 43))) (Mc.out.later (below_box _ (.cells #[.int .i64 TT, .slice a5 M.length c5] 43))) HN.out
set_option maxHeartbeats 4000000 in
set_option maxRecDepth 100000 in
theorem ktake_6 (g base : Nat) (x : SaV) (a : Option Addr) (cap : Nat) (L : List Int) (now : Int) (t : ByteArray) (w : World) (hK : GK w) (hE : ErrT w) (hg : 2 < g) (hB : SaBox w g x (.slice a L.length cap)) (ho : w.ownsRow base 3 1 (.slice a L.length cap) L.length (i64s L)) (hn : (Value.slice a L.length cap).ownBlock ≠ some g) (hbw : base ≤ w.heap.size) (hl : L.length ≤ 100) (hx : saB x = true) (ht : t.size ≤ 1048576) (hw : WOk x.top L.length (gE L)) (h1 : fhB t = true) (h2 : fhN t 0 4 = x.spi) (h3 : ¬ x.since + 2 * x.ticks ≤ now) (h4 : ¬ x.hard < fhN t 4 8) (h5 : ¬ codeL x.top L (fhN t 4 8) = 2) (h6 : ¬ codeL x.top L (fhN t 4 8) = 3) (hk : x.key.size ≤ 1048576) (hm : x.mac.size ≤ 1048576) (h7 : fgB x.key x.mac t = false) :
    Calls Tryz.prog 74 #[.pointer (some ⟨g, 0, none⟩), .int .i64 now, .string t] w (TkB g base (.slice a L.length cap) x L now t w) := by
  have HK := hid_in hK; have HE := hid_in hE; have HB := hid_in hB; have HO := hid_in ho; have HN := hid_in hn; have HX := hid_in hx
  have FH := hid_in (fun W (er : ErrT W) => frameHeadI t W ht er)
  clear hK hE hB ho hn
  have TK := hid_in (show tkK x L now t = 6 by unfold tkK; rw [if_neg (by rw [h1]; decide), if_neg (fun h => h h2), if_neg (fun h => h.elim h3 h4), if_neg h5, if_neg h6, if_neg (by rw [h7]; decide)])
  have OV : Hid (decide (x.since + 2 * x.ticks ≤ now) = false) := by show _ = _; simpa using h3
  rw [h1, h2] at FH
  have h4' : decide (x.hard < fhN t 4 8) = false := by simpa using h4
  have SE : Hid (∀ W, IL W (.slice a L.length cap) L → Calls Tryz.prog 124 #[.agg #[.int .i64 x.top, .slice a L.length cap], .int .i64 (fhN t 4 8)] W (SeeR x.top (fhN t 4 8) L W)) := fun W h => windowSeeR x.top (fhN t 4 8) L _ W h (by omega) hw
  unfold SeeR at SE
  have FG := hid_in (fun W (y : GK W) (er : ErrT W) => frameGetI x.key x.mac t W y er hk hm ht)
  have h5' : decide (codeL x.top L (fhN t 4 8) = 2) = false := by simpa using h5
  have h6' : decide (codeL x.top L (fhN t 4 8) = 3) = false := by simpa using h6
  rw [h7] at FG
  clear h1 h2 hw h7 hx
  generalize topL x.top L (fhN t 4 8) = TT at *
  generalize listL x.top L (fhN t 4 8) = M at *
  generalize codeL x.top L (fhN t 4 8) = cc at *
  generalize fgT x.key x.mac t = U at *
  go_enter Tryz.func74, Tryz.ntmps74
  go_wp2_with fail
  refine (FH.out _ HE.out).mono ?_
  rintro e wa ⟨rfl, hba⟩
  have Ba := hid_in (HB.out.later hba); have Oa := hid_in (owns_below HO.out hba); have Ma := hid_in (Mv.of_below (R := g) hba); have Ka := hid_in (HK.out.below hba HK.out.lt); have Ea := hid_in (HE.out.later hba)
  have hza := hba.size
  clear hba HB HO FH
  obtain ⟨l0, p0, p1, p2, p3, p4, p5, p6, p7, p8, p9, p10, pf⟩ := Ba.out
  go_wp2_with fail
  refine (kover_any g x _ now _ Ba.out HX.out _ OV.out).mono ?_
  rintro e wb ⟨rfl, hbb⟩
  have Bb := hid_in (Ba.out.later hbb); have Ob := hid_in (owns_below Oa.out hbb); have Mb := hid_in (Ma.out.later hbb); have Kb := hid_in (Ka.out.below hbb Ka.out.lt); have Eb := hid_in (Ea.out.later hbb)
  have hzb := hbb.size
  clear hbb l0 p0 p1 p2 p3 p4 p5 p6 p7 p8 p9 p10 pf Ba Oa Ma Ka Ea
  obtain ⟨l0, p0, p1, p2, p3, p4, p5, p6, p7, p8, p9, p10, pf⟩ := Bb.out
  go_wp2_with fail
  refine (SE.out _ (owns_il Ob.out)).mono ?_
  rintro e wc ⟨a5, c5, rfl, o5, hbc⟩
  have Bc := hid_in (Bb.out.later hbc); have Oc := hid_in (owns_below Ob.out hbc); have Mc := hid_in (Mb.out.later hbc); have Kc := hid_in (Kb.out.below hbc Kb.out.lt); have Ec := hid_in (Eb.out.later hbc)
  have O5 := hid_in o5
  have hzc := hbc.size
  have hgb := Bb.out.lt
  clear hbc o5 l0 p0 p1 p2 p3 p4 p5 p6 p7 p8 p9 p10 pf Bb Ob Mb Kb Eb SE
  obtain ⟨l0, p0, p1, p2, p3, p4, p5, p6, p7, p8, p9, p10, pf⟩ := Bc.out
  go_wp2_with fail
  have hbx := below_box wc (.cells #[.int .i64 TT, .slice a5 M.length c5] 43)
  have Bd := hid_in (Bc.out.later hbx); have Od := hid_in (owns_below Oc.out hbx); have Md := hid_in (Mc.out.later hbx); have Kd := hid_in (Kc.out.below hbx Kc.out.lt); have Ed := hid_in (Ec.out.later hbx)
  have Wd := hid_in (WBox.new wc TT (.slice a5 M.length c5) 43)
  have O5d := hid_in (owns_below O5.out hbx)
  have hzd := hbx.size
  clear l0 p0 p1 p2 p3 p4 p5 p6 p7 p8 p9 p10 pf Bc Oc Mc Kc Ec O5 hbx
  generalize wc.alloc (.cells #[.int .i64 TT, .slice a5 M.length c5] 43) = wd at *
  obtain ⟨l0, p0, p1, p2, p3, p4, p5, p6, p7, p8, p9, p10, pf⟩ := Bd.out
  refine wp_region_lat (Below.refl _ _) (by kernel_rfl) (by kernel_rfl) ?_
  intro hne hcl
  repeat (go_big_quiet_step (first | (go_at_call 15; exact lat_of (FG.out _ (Kd.out.below (Lat.h _) Kd.out.lt) (Ed.out.later (Lat.h _))))))
  refine wpQuiet_nil ?_
  intro w1 hb1
  obtain ⟨hc1, hf1⟩ := bcell hb1
  clear hne hcl
  have Be := hid_in (Bd.out.later hb1); have Oe := hid_in (owns_below Od.out hb1); have Me := hid_in (Md.out.later hb1); have We := hid_in (Wd.out.later hb1); have O5e := hid_in (owns_below O5d.out hb1)
  clear hc1 hf1 hb1 l0 p0 p1 p2 p3 p4 p5 p6 p7 p8 p9 p10 pf Bd Od Md Kd Ed Wd O5d FG
  obtain ⟨l0, p0, p1, p2, p3, p4, p5, p6, p7, p8, p9, p10, pf⟩ := Be.out
  obtain ⟨m0, n0, n1⟩ := We.out
  go_wp2_with fail
  go_ret2
  exact TkB_no TK.out (by decide) Be.out Oe.out Me.out HN.out
set_option maxHeartbeats 4000000 in
set_option maxRecDepth 100000 in
theorem ktake_0 (g base : Nat) (x : SaV) (a : Option Addr) (cap : Nat) (L : List Int) (now : Int) (t : ByteArray) (w : World) (hK : GK w) (hE : ErrT w) (hg : 2 < g) (hB : SaBox w g x (.slice a L.length cap)) (ho : w.ownsRow base 3 1 (.slice a L.length cap) L.length (i64s L)) (hn : (Value.slice a L.length cap).ownBlock ≠ some g) (hbw : base ≤ w.heap.size) (hl : L.length ≤ 100) (hx : saB x = true) (ht : t.size ≤ 1048576) (hw : WOk x.top L.length (gE L)) (h1 : fhB t = true) (h2 : fhN t 0 4 = x.spi) (h3 : ¬ x.since + 2 * x.ticks ≤ now) (h4 : ¬ x.hard < fhN t 4 8) (h5 : ¬ codeL x.top L (fhN t 4 8) = 2) (h6 : ¬ codeL x.top L (fhN t 4 8) = 3) (hk : x.key.size ≤ 1048576) (hm : x.mac.size ≤ 1048576) (h7 : fgB x.key x.mac t = true) :
    Calls Tryz.prog 74 #[.pointer (some ⟨g, 0, none⟩), .int .i64 now, .string t] w (TkB g base (.slice a L.length cap) x L now t w) := by
  have HK := hid_in hK; have HE := hid_in hE; have HB := hid_in hB; have HO := hid_in ho; have HN := hid_in hn; have HX := hid_in hx
  have FH := hid_in (fun W (er : ErrT W) => frameHeadI t W ht er)
  clear hK hE hB ho hn
  have TK := hid_in (show tkK x L now t = 0 by unfold tkK; rw [if_neg (by rw [h1]; decide), if_neg (fun h => h h2), if_neg (fun h => h.elim h3 h4), if_neg h5, if_neg h6, if_pos h7])
  have OV : Hid (decide (x.since + 2 * x.ticks ≤ now) = false) := by show _ = _; simpa using h3
  rw [h1, h2] at FH
  have h4' : decide (x.hard < fhN t 4 8) = false := by simpa using h4
  have SE : Hid (∀ W, IL W (.slice a L.length cap) L → Calls Tryz.prog 124 #[.agg #[.int .i64 x.top, .slice a L.length cap], .int .i64 (fhN t 4 8)] W (SeeR x.top (fhN t 4 8) L W)) := fun W h => windowSeeR x.top (fhN t 4 8) L _ W h (by omega) hw
  unfold SeeR at SE
  have FG := hid_in (fun W (y : GK W) (er : ErrT W) => frameGetI x.key x.mac t W y er hk hm ht)
  have h5' : decide (codeL x.top L (fhN t 4 8) = 2) = false := by simpa using h5
  have h6' : decide (codeL x.top L (fhN t 4 8) = 3) = false := by simpa using h6
  rw [h7] at FG
  obtain ⟨TT, hTT⟩ : ∃ T, topL x.top L (fhN t 4 8) = T := ⟨_, rfl⟩
  obtain ⟨M, hM⟩ : ∃ M, listL x.top L (fhN t 4 8) = M := ⟨_, rfl⟩
  obtain ⟨U, hU⟩ : ∃ U, fgT x.key x.mac t = U := ⟨_, rfl⟩
  rw [hTT, hM] at SE
  rw [hU] at FG
  have FIN := hid_in (fun w' u hB ho hm hn v0 hv => TkB_yes (g := g) (base := base) (x := x) (L := L) (now := now) (t := t) (w := w) (w' := w') (v := u) TK.out hTT hM hU hB ho hm hn v0 hv)
  clear h1 h2 hw h7 hx hTT hM hU
  generalize codeL x.top L (fhN t 4 8) = cc at *
  go_enter Tryz.func74, Tryz.ntmps74
  go_wp2_with fail
  refine (FH.out _ HE.out).mono ?_
  rintro e wa ⟨rfl, hba⟩
  have Ba := hid_in (HB.out.later hba); have Oa := hid_in (owns_below HO.out hba); have Ma := hid_in (Mv.of_below (R := g) hba); have Ka := hid_in (HK.out.below hba HK.out.lt); have Ea := hid_in (HE.out.later hba)
  have hza := hba.size
  clear hba HB HO FH
  obtain ⟨l0, p0, p1, p2, p3, p4, p5, p6, p7, p8, p9, p10, pf⟩ := Ba.out
  go_wp2_with fail
  refine (kover_any g x _ now _ Ba.out HX.out _ OV.out).mono ?_
  rintro e wb ⟨rfl, hbb⟩
  have Bb := hid_in (Ba.out.later hbb); have Ob := hid_in (owns_below Oa.out hbb); have Mb := hid_in (Ma.out.later hbb); have Kb := hid_in (Ka.out.below hbb Ka.out.lt); have Eb := hid_in (Ea.out.later hbb)
  have hzb := hbb.size
  clear hbb l0 p0 p1 p2 p3 p4 p5 p6 p7 p8 p9 p10 pf Ba Oa Ma Ka Ea
  obtain ⟨l0, p0, p1, p2, p3, p4, p5, p6, p7, p8, p9, p10, pf⟩ := Bb.out
  go_wp2_with fail
  refine (SE.out _ (owns_il Ob.out)).mono ?_
  rintro e wc ⟨a5, c5, rfl, o5, hbc⟩
  have Bc := hid_in (Bb.out.later hbc); have Oc := hid_in (owns_below Ob.out hbc); have Mc := hid_in (Mb.out.later hbc); have Kc := hid_in (Kb.out.below hbc Kb.out.lt); have Ec := hid_in (Eb.out.later hbc)
  have O5 := hid_in o5
  have hzc := hbc.size
  have hgb := Bb.out.lt
  clear hbc o5 l0 p0 p1 p2 p3 p4 p5 p6 p7 p8 p9 p10 pf Bb Ob Mb Kb Eb SE
  obtain ⟨l0, p0, p1, p2, p3, p4, p5, p6, p7, p8, p9, p10, pf⟩ := Bc.out
  go_wp2_with fail
  have hbx := below_box wc (.cells #[.int .i64 TT, .slice a5 M.length c5] 43)
  have Bd := hid_in (Bc.out.later hbx); have Od := hid_in (owns_below Oc.out hbx); have Md := hid_in (Mc.out.later hbx); have Kd := hid_in (Kc.out.below hbx Kc.out.lt); have Ed := hid_in (Ec.out.later hbx)
  have Wd := hid_in (WBox.new wc TT (.slice a5 M.length c5) 43)
  have O5d := hid_in (owns_below O5.out hbx)
  have hzd := hbx.size
  clear l0 p0 p1 p2 p3 p4 p5 p6 p7 p8 p9 p10 pf Bc Oc Mc Kc Ec O5 hbx
  generalize wc.alloc (.cells #[.int .i64 TT, .slice a5 M.length c5] 43) = wd at *
  obtain ⟨l0, p0, p1, p2, p3, p4, p5, p6, p7, p8, p9, p10, pf⟩ := Bd.out
  refine wp_region_lat (Below.refl _ _) (by kernel_rfl) (by kernel_rfl) ?_
  intro hne hcl
  repeat (go_big_quiet_step (first | (go_at_call 15; exact lat_of (FG.out _ (Kd.out.below (Lat.h _) Kd.out.lt) (Ed.out.later (Lat.h _))))))
  refine wpQuiet_nil ?_
  intro w1 hb1
  obtain ⟨hc1, hf1⟩ := bcell hb1
  clear hne hcl
  have Be := hid_in (Bd.out.later hb1); have Oe := hid_in (owns_below Od.out hb1); have Me := hid_in (Md.out.later hb1); have We := hid_in (Wd.out.later hb1); have O5e := hid_in (owns_below O5d.out hb1)
  clear hc1 hf1 hb1 l0 p0 p1 p2 p3 p4 p5 p6 p7 p8 p9 p10 pf Bd Od Md Kd Ed Wd O5d FG
  obtain ⟨l0, p0, p1, p2, p3, p4, p5, p6, p7, p8, p9, p10, pf⟩ := Be.out
  obtain ⟨m0, n0, n1⟩ := We.out
  have nb5 := hid_in (show ((.slice a5 M.length c5) : Value).ownBlock ≠ some g from fun h => by have := (owns_own O5e.out _ h).1; omega)
  have B9 := hid_in (SaBox.set9 TT (.slice a5 M.length c5) Be.out)
  have M9 := hid_in ((Me.out.setC 9 (.int .i64 TT)).setC 10 (.slice a5 M.length c5))
  have O9 := hid_in (owns_set2 (o := 10) (u := (.slice a5 M.length c5)) (owns_set2 (o := 9) (u := .int .i64 TT) O5e.out nb5.out) nb5.out)
  go_wp2_with fail
  go_ret2
  exact FIN.out _ _ B9.out (ownsW_base O9.out (by omega)) M9.out nb5.out _ (fun k hk => by have := (owns_own O9.out k hk).1; omega)
theorem ktake_any (g base : Nat) (x : SaV) (a : Option Addr) (cap : Nat) (L : List Int) (now : Int) (t : ByteArray) (w : World) (hK : GK w) (hE : ErrT w) (hg : 2 < g) (hB : SaBox w g x (.slice a L.length cap)) (ho : w.ownsRow base 3 1 (.slice a L.length cap) L.length (i64s L)) (hn : (Value.slice a L.length cap).ownBlock ≠ some g) (hbw : base ≤ w.heap.size) (hl : L.length ≤ 100) (hx : saB x = true) (ht : t.size ≤ 1048576) (hw : WOk x.top L.length (gE L)) (hk : x.key.size ≤ 1048576) (hm : x.mac.size ≤ 1048576) :
    Calls Tryz.prog 74 #[.pointer (some ⟨g, 0, none⟩), .int .i64 now, .string t] w (TkB g base (.slice a L.length cap) x L now t w) := by
  cases h1 : fhB t
  · exact ktake_1 g base x a cap L now t w hK hE hg hB ho hn hbw hl hx ht h1
  · by_cases h2 : fhN t 0 4 = x.spi
    · by_cases h3 : x.since + 2 * x.ticks ≤ now
      · exact ktake_3 g base x a cap L now t w hK hE hg hB ho hn hbw hl hx ht h1 h2 h3
      · by_cases h4 : x.hard < fhN t 4 8
        · exact ktake_3b g base x a cap L now t w hK hE hg hB ho hn hbw hl hx ht h1 h2 h3 h4
        · by_cases h5 : codeL x.top L (fhN t 4 8) = 2
          · exact ktake_4 g base x a cap L now t w hK hE hg hB ho hn hbw hl hx ht hw h1 h2 h3 h4 h5
          · by_cases h6 : codeL x.top L (fhN t 4 8) = 3
            · exact ktake_5 g base x a cap L now t w hK hE hg hB ho hn hbw hl hx ht hw h1 h2 h3 h4 h6
            · cases h7 : fgB x.key x.mac t
              · exact ktake_6 g base x a cap L now t w hK hE hg hB ho hn hbw hl hx ht hw h1 h2 h3 h4 h5 h6 hk hm h7
              · exact ktake_0 g base x a cap L now t w hK hE hg hB ho hn hbw hl hx ht hw h1 h2 h3 h4 h5 h6 hk hm h7
    · exact ktake_2 g base x a cap L now t w hK hE hg hB ho hn hbw hl hx ht h1 h2
end Go.Proofs.YtefmmopkikpnhaaGreatDoor

