/- A window read as a word of bits, in the program, as a contract. The conditions stand at each theorem. -/
import Derived.Test.YtihacddipkpmlaaWinC
namespace Go.Proofs.Ytihacddipkpmlaa
open Go.RowKit Go.LatT Go.BlockM Go.OpnT Go.WinMath
set_option linter.unusedVariables false
set_option linter.unusedSimpArgs false
/-- What reading a window leaves. -/
def TrailPost (t : Int) (len : Nat) (E : Nat → Int) (w : World) (e : Ending) (w' : World) : Prop :=
  ∃ (T : Int) (c : Nat) (v : Bool), e = .returned (.tuple #[.agg #[.int .i64 T, .int .u16 (c : Int)], .bool v]) ∧ (v = true ↔ WOk t len E) ∧ (v = true → T = t ∧ Rep t c (LE E len)) ∧ Below w.heap.size w w'
theorem TrailPost.no {t : Int} {len : Nat} {E : Nat → Int} {w w' : World} (h : ¬ WOk t len E) (hb : Below w.heap.size w w') : TrailPost t len E w (.returned (.tuple #[.agg #[.int .i64 0, .int .u16 0], .bool false])) w' :=
  ⟨0, 0, false, rfl, Iff.intro (fun h' => nomatch h') (fun h' => absurd h' h), fun h' => (nomatch h'), hb⟩
set_option maxHeartbeats 2000000 in
set_option maxRecDepth 100000 in
theorem trailOf_some (t : Int) (bb off len cap : Nat) (E : Nat → Int) (w : World) (hlt : bb < w.heap.size) (hc : ∀ i, i < len → w.cell? ⟨bb, off + i, none⟩ = some (.int .i64 (E i))) (hl : len ≤ 1048576) :
    Calls Try.prog 43 #[.agg #[.int .i64 t, .slice (some ⟨bb, off, none⟩) len cap]] w (TrailPost t len E w) := by
  have HC := hid_in hc
  clear hc
  go_enter Try.func43, Try.ntmps43
  go_wp2_with fail
  have hW0 : (((w.alloc (Obj.cells #[.int .i64 t, .slice (some ⟨bb, off, none⟩) len cap] 36)).alloc (Obj.cells #[.int .i64 0, .int .u16 0] 71)).alloc (Obj.cells #[.int .i64 0, .int .u16 0] 71)).heap.size = w.heap.size + 1 + 1 + 1 := by simp
  have c0 : (((w.alloc (Obj.cells #[.int .i64 t, .slice (some ⟨bb, off, none⟩) len cap] 36)).alloc (Obj.cells #[.int .i64 0, .int .u16 0] 71)).alloc (Obj.cells #[.int .i64 0, .int .u16 0] 71)).cell? ⟨w.heap.size, 0, none⟩ = some (.int .i64 t) := by go_simp
  have c1 : (((w.alloc (Obj.cells #[.int .i64 t, .slice (some ⟨bb, off, none⟩) len cap] 36)).alloc (Obj.cells #[.int .i64 0, .int .u16 0] 71)).alloc (Obj.cells #[.int .i64 0, .int .u16 0] 71)).cell? ⟨w.heap.size + 1, 0, none⟩ = some (.int .i64 0) := by go_simp
  have c2 : (((w.alloc (Obj.cells #[.int .i64 t, .slice (some ⟨bb, off, none⟩) len cap] 36)).alloc (Obj.cells #[.int .i64 0, .int .u16 0] 71)).alloc (Obj.cells #[.int .i64 0, .int .u16 0] 71)).cell? ⟨w.heap.size + 1, 1, none⟩ = some (.int .u16 0) := by go_simp
  have c3 : (((w.alloc (Obj.cells #[.int .i64 t, .slice (some ⟨bb, off, none⟩) len cap] 36)).alloc (Obj.cells #[.int .i64 0, .int .u16 0] 71)).alloc (Obj.cells #[.int .i64 0, .int .u16 0] 71)).frozen? ⟨w.heap.size + 1, 0, none⟩ = false := by go_simp
  have c4 : (((w.alloc (Obj.cells #[.int .i64 t, .slice (some ⟨bb, off, none⟩) len cap] 36)).alloc (Obj.cells #[.int .i64 0, .int .u16 0] 71)).alloc (Obj.cells #[.int .i64 0, .int .u16 0] 71)).frozen? ⟨w.heap.size + 1, 1, none⟩ = false := by go_simp
  have c5 : Tr (((w.alloc (Obj.cells #[.int .i64 t, .slice (some ⟨bb, off, none⟩) len cap] 36)).alloc (Obj.cells #[.int .i64 0, .int .u16 0] 71)).alloc (Obj.cells #[.int .i64 0, .int .u16 0] 71)) (w.heap.size + 1 + 1) 0 0 := ⟨by go_simp, by go_simp, by go_simp, by go_simp⟩
  have z0 : Below w.heap.size w (((w.alloc (Obj.cells #[.int .i64 t, .slice (some ⟨bb, off, none⟩) len cap] 36)).alloc (Obj.cells #[.int .i64 0, .int .u16 0] 71)).alloc (Obj.cells #[.int .i64 0, .int .u16 0] 71)) := by go_grown
  generalize (((w.alloc (Obj.cells #[.int .i64 t, .slice (some ⟨bb, off, none⟩) len cap] 36)).alloc (Obj.cells #[.int .i64 0, .int .u16 0] 71)).alloc (Obj.cells #[.int .i64 0, .int .u16 0] 71)) = W at *
  obtain ⟨m, hm⟩ : ∃ m, IntKind.i64.wrap (t - 16) = m := ⟨_, rfl⟩
  have HM := hid_in hm; have HZ := hid_in z0
  clear hm z0
  have C0 := hid_in c0; have C1 := hid_in c1; have C2 := hid_in c2; have C3 := hid_in c3; have C4 := hid_in c4; have C5 := hid_in c5; have HS := hid_in hW0
  clear c0 c1 c2 c3 c4 c5 hW0
  go_loopw [10] (fun v wr => ∃ k : Nat, k ≤ len ∧ v = .int .i64 (k : Int) ∧ Hid (Mv (w.heap.size + 1 + 1) W wr ∧ wr.heap.size = W.heap.size ∧ (∃ c, Tr wr (w.heap.size + 1 + 1) (topK E k) c ∧ Rep (topK E k) c (seenK E k)) ∧ ∀ i, i < k → goodK m E i)) (fun v _ => len - (intOf v).toNat)
  case atStart => exact ⟨0, Nat.zero_le _, rfl, by show _ ∧ _; exact ⟨Mv.refl _ _, rfl, ⟨0, C5.out, rep_nil⟩, fun i hi => by omega⟩⟩
  case round =>
    obtain ⟨k, hk, rfl, HW⟩ := hrel
    obtain ⟨hM, hsz, ⟨c, hTr, hRep⟩, hgood⟩ := HW.out
    have hW := HS.out
    have q0 := (hM.cell w.heap.size 0 (by omega) (by omega)).trans C0.out
    have q1 := (hM.cell (w.heap.size + 1) 0 (by omega) (by omega)).trans C1.out
    have q2 := (hM.cell (w.heap.size + 1) 1 (by omega) (by omega)).trans C2.out
    have q3 := (hM.frozen (w.heap.size + 1) 0 (by omega) (by omega)).trans C3.out
    have q4 := (hM.frozen (w.heap.size + 1) 1 (by omega) (by omega)).trans C4.out
    have r0 := hTr.c0
    have r1 := hTr.c1
    have hbW : Below w.heap.size w wr := HZ.out.trans (hM.below (by omega) (by omega))
    have hm := HM.out
    have hnn := topK_nonneg hgood
    have MM := hid_in hM; have TR := hid_in hTr; have RR := hid_in hRep; have GG := hid_in hgood; have BB := hid_in hbW; have SZ := hid_in hsz
    by_cases hlt' : k < len
    · have hd : (k : Int) < (len : Int) := by omega
      have g0 := (hM.cell bb (off + k) (by omega) (by omega)).trans (((bcell HZ.out).1 bb _ hlt).trans (HC.out k hlt'))
      clear hM hsz hTr hRep hgood hW hbW
      have endBad : Hid (¬ goodK m E k → ¬ WOk t len E) := by
        show _ → _
        intro hbad hok
        exact hbad (by rw [← HM.out]; exact (wok_good hok).1 k hlt')
      by_cases hA : E k ≤ topK E k
      · go_wp2_with fail
        exact bodyPost_ret (v := .tuple #[.agg #[.int .i64 0, .int .u16 0], .bool false]) (by simp [results, Try.results43, go_sem, q1, q2]) rfl (TrailPost.no (endBad.out (fun h => by have := h.1; omega)) ((BB.out.setCell (by simp) _).setCell (by simp) _))
      · have hA' : decide (E k ≤ topK E k) = false := by simp; omega
        by_cases hB : E k ≤ m
        · go_wp2_with fail
          exact bodyPost_ret (v := .tuple #[.agg #[.int .i64 0, .int .u16 0], .bool false]) (by simp [results, Try.results43, go_sem, q1, q2]) rfl (TrailPost.no (endBad.out (fun h => by have := h.2.1; omega)) ((BB.out.setCell (by simp) _).setCell (by simp) _))
        · have hB' : decide (E k ≤ m) = false := by simp; omega
          go_wp2_with fail
          refine (see_any (w.heap.size + 1 + 1) (topK E k) (E k) c (seenK E k) wr TR.out RR.out).mono ?_
          rintro e w1 ⟨c', rfl, T1, R1, M1, S1⟩
          have hsz1 := S1.trans SZ.out
          have hs3 := HS.out
          have z1 : w1.cell? ⟨w.heap.size + 1, 0, none⟩ = some (.int .i64 0) := (M1.cell (w.heap.size + 1) 0 (by rw [SZ.out]; omega) (by omega)).trans q1
          have z2 : w1.cell? ⟨w.heap.size + 1, 1, none⟩ = some (.int .u16 0) := (M1.cell (w.heap.size + 1) 1 (by rw [SZ.out]; omega) (by omega)).trans q2
          have z3 : w1.frozen? ⟨w.heap.size + 1, 0, none⟩ = false := (M1.frozen (w.heap.size + 1) 0 (by rw [SZ.out]; omega) (by omega)).trans q3
          have z4 : w1.frozen? ⟨w.heap.size + 1, 1, none⟩ = false := (M1.frozen (w.heap.size + 1) 1 (by rw [SZ.out]; omega) (by omega)).trans q4
          have b1 : Below w.heap.size w w1 := BB.out.trans (M1.below (by rw [SZ.out]; omega) (by omega))
          have B1 := hid_in b1; have TT := hid_in T1; have R1' := hid_in R1; have M1' := hid_in (MM.out.trans M1); have S1' := hid_in hsz1
          clear b1 T1 R1 M1 hsz1 hs3 S1 q0 q1 q2 q3 q4 g0 r0 r1
          by_cases hE : E k ≤ 1000000
          · have hg : goodK m E k := ⟨by omega, by omega, hE⟩
            obtain ⟨x1, x2⟩ := code_good GG.out RR.out hg
            have X2 := hid_in x2; have HG := hid_in hg
            clear x2 hg
            rw [x1]
            clear x1
            go_wp2_with fail
            refine ⟨⟨k + 1, by omega, by simp, ?_⟩, by simp [intOf]; omega⟩
            show _ ∧ _
            refine ⟨M1'.out, S1'.out, ⟨c', by rw [← X2.out]; exact TT.out, ?_⟩, fun i hi => ?_⟩
            · have := R1'.out
              rw [X2.out] at this
              exact this
            · by_cases hik : i < k
              · exact GG.out i hik
              · rw [show i = k by omega]; exact HG.out
          · have x1 : codeL (topK E k) (seenK E k) (E k) = 1 := by unfold codeL; rw [if_pos (.inr (by omega))]
            rw [x1]
            clear x1
            go_wp2_with fail
            exact bodyPost_ret (v := .tuple #[.agg #[.int .i64 0, .int .u16 0], .bool false]) (by simp [results, Try.results43, go_sem, z1, z2]) rfl (TrailPost.no (endBad.out (fun h => by have := h.2.2; omega)) ((B1.out.setCell (by simp) _).setCell (by simp) _))
    · have hd : decide ((k : Int) < (len : Int)) = false := by simp; omega
      have e : k = len := by omega
      subst e
      clear hM hsz hTr hRep hgood hW hbW
      go_wp2_with fail
      go_region
      go_wp2_with fail
      exact bodyPost_ret (v := .tuple #[.agg #[.int .i64 (topK E k), .int .u16 (c : Int)], .bool (topK E k == t)]) (by simp [results, Try.results43, go_sem, q1, q2]) rfl
        ⟨_, c, _, rfl, by
          constructor
          · intro h; exact good_wok (by rw [HM.out]; exact GG.out) (by simpa using h)
          · intro h; have := (wok_good h).2; simpa using this, by
          intro h
          have e1 : topK E k = t := by simpa using h
          refine ⟨e1, ?_⟩
          have h2 := good_wok (by rw [HM.out]; exact GG.out) e1
          have := RR.out
          rw [wok_seen h2, e1] at this
          exact this, ((BB.out.setCell (by simp) _).setCell (by simp) _).drew⟩
set_option maxHeartbeats 1000000 in
set_option maxRecDepth 100000 in
theorem trailOf_nil (t : Int) (a : Option Addr) (cap : Nat) (E : Nat → Int) (w : World) :
    Calls Try.prog 43 #[.agg #[.int .i64 t, .slice a 0 cap]] w (TrailPost t 0 E w) := by
  go_enter Try.func43, Try.ntmps43
  go_wp2_with fail
  refine wp_loop_rounds 1 ?_
  rw [rounds_succ]
  go_wp2_with fail
  go_region
  go_wp2_with fail
  exact bodyPost_ret (v := .tuple #[.agg #[.int .i64 0, .int .u16 0], .bool (0 == t)]) (by simp [results, Try.results43, go_sem]) rfl
    ⟨0, 0, _, rfl, by
      constructor
      · intro h; exact .inl ⟨rfl, by have : 0 = t := by simpa using h
                                     exact this.symm⟩
      · rintro (⟨_, rfl⟩ | ⟨h, _⟩)
        · rfl
        · omega, by
      intro h
      have : 0 = t := by simpa using h
      subst this
      exact ⟨rfl, rep_nil⟩, by go_grown⟩
theorem trailOf_any (t : Int) (a : Option Addr) (len cap : Nat) (E : Nat → Int) (w : World) (hT : Ints w a len E) (hl : len ≤ 1048576) :
    Calls Try.prog 43 #[.agg #[.int .i64 t, .slice a len cap]] w (TrailPost t len E w) := by
  rcases hT with rfl | ⟨bb, off, rfl, h1, h2⟩
  · exact trailOf_nil t a cap E w
  · exact trailOf_some t bb off len cap E w h1 h2 hl
set_option maxHeartbeats 1000000 in
set_option maxRecDepth 100000 in
theorem windowOkI (t : Int) (a : Option Addr) (len cap : Nat) (E : Nat → Int) (w : World) (hT : Ints w a len E) (hl : len ≤ 1048576) :
    Calls Try.prog 39 #[.agg #[.int .i64 t, .slice a len cap]] w fun e w' => ∃ v, e = .returned (.bool v) ∧ (v = true ↔ WOk t len E) ∧ Below w.heap.size w w' := by
  have HT := hid_in hT
  clear hT
  go_enter Try.func39, Try.ntmps39
  go_wp2_with fail
  refine (trailOf_any t a len cap E _ (HT.out.later (by go_grown)) hl).mono ?_
  rintro e w1 ⟨T, c, v, rfl, h1, _, hb1⟩
  have H1 := hid_in h1; have HB := hid_in (below_later (below_box w _) hb1)
  clear h1 hb1
  go_wp2_with fail
  go_ret
  exact ⟨_, rfl, H1.out, below_later HB.out (below_box _ _)⟩
end Go.Proofs.Ytihacddipkpmlaa
