/- What is proved: the contracts of TakH, one behind the other. The conditions stand at each theorem. -/
import Derived.Test.YtefmmopkikpnhaaGreatDoorVTkD
import Derived.Test.YtefmmopkikpnhaaGreatDoorVTkB
namespace Go.Proofs.YtefmmopkikpnhaaGreatDoor
open Go.RowKit Go.LatT Go.BlockM Go.PlainAid Go.OpnT Go.ApdG Go.BytM Go.AesM Go.RowQ Go.WinMath
set_option linter.unusedVariables false
set_option linter.unusedSimpArgs false
set_option maxHeartbeats 2000000 in
set_option maxRecDepth 100000 in
theorem saTakeS_no (x : SaV) (a : Option Addr) (len cap : Nat) (E : Nat → Int) (now : Int) (t : ByteArray) (w : World) (hT : Ints w a len E) (hl : len ≤ 1048576) (hno : ¬ (saB x = true ∧ WOk x.top len E)) :
    Calls Tryz.prog 31 #[vSa x a len cap, .int .i64 now, .string t] w (SaAns zeroSa [] ⟨#[]⟩ 1 w) := by
  have HT := hid_in hT; have NO := hid_in hno
  clear hT hno
  have R0 := hid_in (SaBox.newAt (w.alloc (.cells #[.int .i64 x.spi, .int .i64 x.tun, .string x.key, .string x.mac, .int .i64 x.since, .int .i64 x.soft, .int .i64 x.hard, .int .i64 x.ticks, .int .i64 x.sent, .int .i64 x.top, .slice a len cap] 45)) zeroSa (.slice none 0 0) 45 (w.heap.size + 1) (by simp))
  go_enter Tryz.func31, Tryz.ntmps31
  go_wp2_with fail
  refine (saOkS x a len cap E _ (HT.out.later (by go_grown)) hl).mono ?_
  rintro e w1 ⟨u, rfl, hu, hb1⟩
  obtain rfl : u = false := by
    cases u
    · rfl
    · exact absurd (hu.1 rfl) NO.out
  have Z1 : Hid (Below w.heap.size w w1) := below_later (by go_grown) hb1
  have R1 := hid_in (R0.out.later hb1)
  clear hu hb1 R0
  obtain ⟨l0, p0, p1, p2, p3, p4, p5, p6, p7, p8, p9, p10, pf⟩ := R1.out
  go_wp2_with (exact bodyPost_ret (v := .tuple #[vSv zeroSa (.slice none 0 0), .string ⟨#[]⟩, .int .i64 1]) (by
    have X4 := SaBox.put R1.out zeroSa (.slice none 0 0)
    simp only [putSa] at X4
    obtain ⟨_, d0, d1, d2, d3, d4, d5, d6, d7, d8, d9, d10, _⟩ := X4
    simp [results, Tryz.results31, go_sem, d0, d1, d2, d3, d4, d5, d6, d7, d8, d9, d10]) rfl ⟨_, rfl, World.ownsRow_nil _ _ _ _, below_putSa Z1.out (show w.heap.size ≤ w.heap.size + 1 by omega) zeroSa (.slice none 0 0)⟩)
set_option maxHeartbeats 2000000 in
set_option maxRecDepth 100000 in
theorem saTakeS_yes (x : SaV) (a : Option Addr) (len cap : Nat) (E : Nat → Int) (now : Int) (t : ByteArray) (w : World) (hT : Ints w a len E) (hL : IL w (.slice a len cap) (LE E len)) (hl : len ≤ 1048576) (hk : x.key.size ≤ 1048576) (hm : x.mac.size ≤ 1048576) (ht : t.size ≤ 1048576) (hx : saB x = true) (hw : WOk x.top len E) :
    Calls Tryz.prog 31 #[vSa x a len cap, .int .i64 now, .string t] w (takP x (LE E len) now t w) := by
  have HT := hid_in hT; have HL := hid_in hL; have HX := hid_in hx; have HW := hid_in hw
  have SD : Hid (∀ W, IL W (.slice a len cap) (LE E len) → Calls Tryz.prog 73 #[vSv x (.slice a len cap), .int .i64 now, .string t] W (takP x (LE E len) now t W)) := fun W h => by
    obtain ⟨c, hc⟩ := wok_rep hw
    exact l9Take_any x _ _ now t W h (by have := repW_len hc; omega) hx ht c hc hk hm
  unfold takP at SD ⊢
  generalize tkX x (LE E len) now t = X at *
  generalize tkT x (LE E len) now t = T at *
  generalize tkK x (LE E len) now t = K at *
  generalize tkL x (LE E len) now t = M at *
  generalize LE E len = L at *
  clear hT hL hx hw
  have R0 := hid_in (SaBox.newAt (w.alloc (.cells #[.int .i64 x.spi, .int .i64 x.tun, .string x.key, .string x.mac, .int .i64 x.since, .int .i64 x.soft, .int .i64 x.hard, .int .i64 x.ticks, .int .i64 x.sent, .int .i64 x.top, .slice a len cap] 45)) zeroSa (.slice none 0 0) 45 (w.heap.size + 1) (by simp))
  have P0 := hid_in (SaBox.new w x (.slice a len cap) 45)
  go_enter Tryz.func31, Tryz.ntmps31
  go_wp2_with fail
  refine (saOkS x a len cap E _ (HT.out.later (by go_grown)) hl).mono ?_
  rintro e w1 ⟨u, rfl, hu, hb1⟩
  obtain rfl : u = true := hu.2 ⟨HX.out, HW.out⟩
  have Z1 : Hid (Below w.heap.size w w1) := below_later (by go_grown) hb1
  have R1 := hid_in (R0.out.later hb1)
  have P1 := hid_in ((P0.out.later (below_box _ _)).later hb1)
  have L1 := hid_in (HL.out.later Z1.out)
  clear hu hb1 R0 P0
  obtain ⟨l0, p0, p1, p2, p3, p4, p5, p6, p7, p8, p9, p10, pf⟩ := P1.out
  go_wp2_with fail
  refine (SD.out _ L1.out).mono ?_
  rintro e w2 ⟨v2, rfl, o2, hb2⟩
  obtain ⟨a2, c2, rfl⟩ := owns_form o2
  have Z2 := hid_in (below_later Z1.out hb2); have R2 := hid_in (R1.out.later hb2); have O2 := hid_in o2
  have s1 := R1.out.lt
  have NB := hid_in (show (Value.slice a2 M.length c2).ownBlock ≠ some (w.heap.size + 1) from fun h => by have := (owns_own O2.out _ h).1; omega)
  clear l0 p0 p1 p2 p3 p4 p5 p6 p7 p8 p9 p10 pf o2 hb2 R1 Z1 P1 L1
  obtain ⟨l0, p0, p1, p2, p3, p4, p5, p6, p7, p8, p9, p10, pf⟩ := R2.out
  go_wp2_with (exact bodyPost_ret (v := .tuple #[vSv X (.slice a2 M.length c2), .string T, .int .i64 K]) (by
    have X4 := SaBox.put R2.out X (.slice a2 M.length c2)
    simp only [putSa] at X4
    obtain ⟨_, d0, d1, d2, d3, d4, d5, d6, d7, d8, d9, d10, _⟩ := X4
    simp [results, Tryz.results31, go_sem, d0, d1, d2, d3, d4, d5, d6, d7, d8, d9, d10]) rfl ⟨_, rfl, ownsW_base (owns_putSa O2.out NB.out X (.slice a2 M.length c2)) (by omega), below_putSa Z2.out (show w.heap.size ≤ w.heap.size + 1 by omega) X (.slice a2 M.length c2)⟩)
theorem saTakeS (x : SaV) (a : Option Addr) (len cap : Nat) (E : Nat → Int) (now : Int) (t : ByteArray) (w : World) (hT : Ints w a len E) (hL : IL w (.slice a len cap) (LE E len)) (hl : len ≤ 1048576) (ht : t.size ≤ 1048576) (hk : x.key.size ≤ 1048576) (hm : x.mac.size ≤ 1048576) (u : Bool) (hu : u = true ↔ saB x = true ∧ WOk x.top len E) :
    Calls Tryz.prog 31 #[vSa x a len cap, .int .i64 now, .string t] w (SaAns (tX u x E len now t) (tL u x E len now t) (tT u x E len now t) (tK u x E len now t) w) := by
  cases u
  · exact saTakeS_no x a len cap E now t w hT hl (fun h => by have := hu.2 h; cases this)
  · obtain ⟨hx, hw⟩ := hu.1 rfl
    exact saTakeS_yes x a len cap E now t w hT hL hl hk hm ht hx hw
end Go.Proofs.YtefmmopkikpnhaaGreatDoor

