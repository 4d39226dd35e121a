/- A block and an address, drawn. The conditions stand at each theorem. -/
import Derived.Test.YtjiiodcikicpfaaDrwF
import Derived.Test.YtjiiodcikicpfaaBlkF
import Derived.Test.YtjiiodcikicpfaaRegN
import Derived.Test.YtjiiodcikicpfaaMath
import Derived.WalkKit
import Derived.OpenShut
import Derived.WalkSpells
import Derived.WalkLawsBesides
import Derived.BigQuiet
import Derived.Handy
import Derived.Deep.RegionWith
import Derived.Deep.RegionHeld3
namespace Go.Proofs.Ytjiiodcikicpfaa
open Go.RowKit Go.LatT Go.BlockM Go.RegN
set_option linter.unusedVariables false
set_option linter.unusedSimpArgs false
/-- What is read does not lie in a block. -/
def Away (sl : Value) (g : Nat) : Prop := ∀ bb off n cap, sl = .slice (some ⟨bb, off, none⟩) n cap → 1 ≤ n → bb ≠ g
theorem Rdr.poke {w : World} {R g o : Nat} {sl : Value} {p : Int} (h : Rdr w R sl p) (hg : g ≠ R) (ha : Away sl g) (v : Value) : Rdr (w.setCell ⟨g, o, none⟩ v) R sl p := by
  have c0 := h.c0
  have c1 := h.c1
  have fz := h.fz
  have hg' : ¬ R = g := fun e => hg e.symm
  refine ⟨by go_simp, by go_simp, by go_simp, ?_⟩
  rcases h.src with h1 | ⟨bb, off, n, cap, z, e, hne, h1, h2, hs⟩
  · exact .inl h1
  · refine .inr ⟨bb, off, n, cap, z, e, hne, h1, h2, ⟨fun i hi => ?_, hs.lo, hs.hi⟩⟩
    have hb : bb ≠ g := ha bb off n cap e h1
    unfold World.cell?
    rw [Below.heap_setCell _ _ _ _ hb]
    exact hs.cell i hi
theorem rowc_away {w0 : World} {a : Option Addr} {len cap n c : Nat} {z : List Int} (h : RowC w0 a len cap z) (hn : n ≤ len) (g : Nat) (hg : w0.heap.size ≤ g) : Away (.slice a n c) g := by
  intro bb off n' cap' e h1
  simp only [Value.slice.injEq] at e
  obtain ⟨rfl, rfl, rfl⟩ := e
  rcases h with ⟨rfl, _⟩ | ⟨bb', off', e', h2, h3, h4, h5, _⟩
  · omega
  · simp only [Option.some.injEq, Addr.mk.injEq] at e'
    obtain ⟨rfl, rfl, _⟩ := e'
    have := cell_lt (h5 0 (by omega))
    omega
set_option maxHeartbeats 1000000 in
set_option maxRecDepth 100000 in
theorem l1OpenB (a : Option Addr) (len cap : Nat) (z : List Int) (w0 w : World) (h0 : RowC w0 a len cap z) (h : RowC w a len cap z) (hl : len ≤ 1048576) :
    Calls Try.prog 38 #[.slice a len cap] w fun e w' => ∃ sl, e = .returned (.pointer (some ⟨w.heap.size, 0, none⟩)) ∧ Rdr w' w.heap.size sl 0 ∧ (∀ g, w0.heap.size ≤ g → Away sl g) ∧ Below w.heap.size w w' := by
  have H0 := hid_in h0
  clear h0
  rcases h with ⟨rfl, rfl⟩ | ⟨bb, off, rfl, h1, h2, h3, h4, h5⟩
  · go_enter Try.func38, Try.ntmps38
    go_wp2
    go_ret
    exact ⟨.slice a 0 0, rfl, ⟨by go_simp, by go_simp, by go_simp, .inl ⟨_, _, rfl⟩⟩, fun g hg => rowc_away H0.out (Nat.le_refl _) g hg, below_box _ _⟩
  · unfold maxLen at h2
    have H4 := hid_in h4; have H5 := hid_in h5; clear h4 h5
    by_cases hlt : (2000 : Int) < (len : Int)
    · have hc : (2000 : Int) ≤ (cap : Int) := by omega
      go_enter Try.func38, Try.ntmps38
      go_wp2
      go_ret
      exact ⟨_, rfl, open_rdr h1 h3 H4.out H5.out (by omega) (by omega), fun g hg => rowc_away H0.out (by omega) g hg, below_box _ _⟩
    · go_enter Try.func38, Try.ntmps38
      go_wp2
      go_ret
      exact ⟨rfl, _, open_rdr h1 h3 H4.out H5.out (Nat.le_refl _) (by omega), fun g hg => rowc_away H0.out (Nat.le_refl _) g hg, below_box _ _⟩
theorem one4 (R G : Nat) (sl : Value) (p a b c d : Int) (w : World) (h : Rdr w R sl p) (hG : G ≠ R) (hp : 0 ≤ p) (hp' : p ≤ 1000000) (h0 : w.cell? ⟨G, 0, none⟩ = some (.int .i64 a)) (h1 : w.cell? ⟨G, 1, none⟩ = some (.int .i64 b)) (h2 : w.cell? ⟨G, 2, none⟩ = some (.int .i64 c)) (h3 : w.cell? ⟨G, 3, none⟩ = some (.int .i64 d)) :
    Calls Try.prog 41 #[.pointer (some ⟨R, 0, none⟩), .slice (some ⟨G, 0, none⟩) 4 4] w fun e w' => ∃ u : Int, e = .returned (.int .i64 u) ∧ (u = a ∨ u = b ∨ u = c ∨ u = d) ∧ Rdr w' R sl (p + 1) ∧ Mv R w w' := by
  have := oneM R G sl p [a, b, c, d] w h hG hp (by omega) (by simp) (by simp) (by
    intro i hi
    rcases i with _ | _ | _ | _ | i
    · exact h0
    · exact h1
    · exact h2
    · exact h3
    · simp at hi; omega)
  exact this.mono fun _ _ ⟨u, he, hu, h5, h6⟩ => ⟨u, he, by simpa using hu, h5, h6⟩
set_option maxHeartbeats 8000000 in
set_option maxRecDepth 100000 in
theorem drawBlockHas (a : Option Addr) (len cap : Nat) (z : List Int) (w : World) (h : RowC w a len cap z) (hl : len ≤ 1048576) :
    Calls Try.prog 9 #[.slice a len cap] w fun e w' => ∃ x y c : Int, e = .returned (.tuple #[.agg #[.int .i64 x, .int .i64 y], .int .i64 c]) ∧ -1 ≤ x ∧ x ≤ 4294967551 ∧ -1 ≤ y ∧ y ≤ 33 ∧ -10 ≤ c ∧ c ≤ 1099511627776 ∧ Below w.heap.size w w' := by
  have hr : RowC (w.alloc (Obj.cells #[Value.int IntKind.i64 0, Value.int IntKind.i64 0] 24)) a len cap z := h.later (below_box _ _)
  have H0 := hid_in h
  have HR := hid_in hr
  clear h hr
  go_enter Try.func9, Try.ntmps9
  go_wp2_with fail
  refine (l1OpenB a len cap z w _ H0.out HR.out hl).mono ?_
  rintro e w1 ⟨sl, rfl, h1, hA, hb1⟩
  have H1 : Hid (Rdr w1 (w.heap.size + 1) sl 0) := by show Rdr _ _ _ _; simpa using h1
  have HA := hid_in (hA w.heap.size (Nat.le_refl _))
  have s1 : w.heap.size + 1 < w1.heap.size := H1.out.lt
  have k0 : w1.cell? ⟨w.heap.size, 0, none⟩ = some (.int .i64 0) := by rw [(bcell hb1).1 _ _ (by simp)]; go_simp
  have k1 : w1.cell? ⟨w.heap.size, 1, none⟩ = some (.int .i64 0) := by rw [(bcell hb1).1 _ _ (by simp)]; go_simp
  have f0 : w1.frozen? ⟨w.heap.size, 0, none⟩ = false := by rw [(bcell hb1).2 _ _ (by simp)]; go_simp
  have f1 : w1.frozen? ⟨w.heap.size, 1, none⟩ = false := by rw [(bcell hb1).2 _ _ (by simp)]; go_simp
  have Z1 := hid_in (below_under hb1)
  clear h1 hA hb1 H0 HR
  go_wp2_with fail
  refine (l12AnyBlock_any (w.heap.size + 1) sl 0 _ H1.out (by omega) (by omega)).mono ?_
  rintro e w2 ⟨x, y, rfl, x0, x1, y0, y1, ⟨q, q1, q2, h2⟩, m2⟩
  have s2 := m2.size
  have k0' := (m2.cell w.heap.size 0 (by omega) (by omega)).trans k0
  have k1' := (m2.cell w.heap.size 1 (by omega) (by omega)).trans k1
  have f0' := (m2.frozen w.heap.size 0 (by omega) (by omega)).trans f0
  have f1' := (m2.frozen w.heap.size 1 (by omega) (by omega)).trans f1
  have Z2 := hid_in (below_mv Z1.out (by omega : w.heap.size ≤ w.heap.size + 1) m2)
  have H2 := hid_in h2
  clear k0 k1 f0 f1 Z1 H1 h2 m2
  go_wp2_with fail
  obtain ⟨o, ho⟩ : ∃ o, okB x y = o := ⟨_, rfl⟩
  have O := hid_in ho
  refine (specOk x y _ o ho).mono ?_
  rintro e w3 ⟨rfl, hb3⟩
  have s3 := hb3.size
  simp at s3
  have d0 : w3.cell? ⟨w2.heap.size, 0, none⟩ = some (.int .i64 x) := by rw [(bcell hb3).1 _ _ (by simp)]; go_simp
  have d1 : w3.cell? ⟨w2.heap.size, 1, none⟩ = some (.int .i64 y) := by rw [(bcell hb3).1 _ _ (by simp)]; go_simp
  have b3 := below_under hb3
  have k0 := ((bcell b3).1 w.heap.size 0 (by omega)).trans k0'
  have k1 := ((bcell b3).1 w.heap.size 1 (by omega)).trans k1'
  have f0 := ((bcell b3).2 w.heap.size 0 (by omega)).trans f0'
  have f1 := ((bcell b3).2 w.heap.size 1 (by omega)).trans f1'
  have Z3 := hid_in (below_later Z2.out b3)
  have H3 := hid_in (H2.out.later b3)
  clear k0' k1' f0' f1' Z2 H2 b3 hb3 ho
  have n1 : ¬ w2.heap.size = w.heap.size := by omega
  have n2 : ¬ w2.heap.size = w.heap.size + 1 := by omega
  have n3 : ¬ w.heap.size = w2.heap.size := by omega
  cases o
  · go_wp2_with fail
    go_region_with (first | (go_at_call 43; refine (l12AnyAddr_any (w.heap.size + 1) sl q _ (by first | exact H3.out.drew | exact ((H3.out.poke (by omega) HA.out _).poke (by omega) HA.out _).drew) (by omega) (by omega)).mono ?_; rintro e w4 ⟨c, rfl, c0, c1, ⟨q', _, _, h4⟩, m4⟩; have s4 := m4.size; have b0 := m4.cell w2.heap.size 0 (by simp; omega) (by omega); have b1 := m4.cell w2.heap.size 1 (by simp; omega) (by omega); have e0 := m4.cell w.heap.size 0 (by simp; omega) (by omega); have e1 := m4.cell w.heap.size 1 (by simp; omega) (by omega); have g0 := m4.frozen w.heap.size 0 (by simp; omega) (by omega); have g1 := m4.frozen w.heap.size 1 (by simp; omega) (by omega)))
    all_goals
      go_wp2_with fail
      refine bodyPost_ret (v := .tuple #[.agg #[.int .i64 x, .int .i64 y], .int .i64 c]) (by simp [results, Try.results9, go_sem, e0, e1, b0, b1, d0, d1, k0, k1, n1, n3]) rfl ⟨x, y, c, rfl, x0, x1, y0, y1, by omega, by omega, ?_⟩
      first | exact ((below_mv Z3.out.drew (by omega : w.heap.size ≤ w.heap.size + 1) m4).setCell (Nat.le_refl _) _).setCell (Nat.le_refl _) _ | exact below_mv ((Z3.out.setCell (Nat.le_refl _) _).setCell (Nat.le_refl _) _).drew (by omega : w.heap.size ≤ w.heap.size + 1) m4
  · obtain ⟨a0, a1, b0', b1', _⟩ := ok_of O.out
    have hp := pw_pos (32 - y)
    have hp2 := pw_le (n := 32 - y) (by omega) (by omega)
    go_wp2_with fail
    refine (pickM (w.heap.size + 1) sl q 3 _ H3.out (by omega) (by omega) (by omega) (by omega)).mono ?_
    rintro e w4 ⟨u, rfl, u0, u1, h4, m4⟩
    have s4 := m4.size
    have d0' := (m4.cell w2.heap.size 0 (by omega) (by omega)).trans d0
    have d1' := (m4.cell w2.heap.size 1 (by omega) (by omega)).trans d1
    have k0' := (m4.cell w.heap.size 0 (by omega) (by omega)).trans k0
    have k1' := (m4.cell w.heap.size 1 (by omega) (by omega)).trans k1
    have f0' := (m4.frozen w.heap.size 0 (by omega) (by omega)).trans f0
    have f1' := (m4.frozen w.heap.size 1 (by omega) (by omega)).trans f1
    have Z4 := hid_in (below_mv Z3.out (by omega : w.heap.size ≤ w.heap.size + 1) m4)
    have H4 := hid_in h4
    clear d0 d1 k0 k1 f0 f1 Z3 H3 h4 m4
    have d0 := d0'; have d1 := d1'; have k0 := k0'; have k1 := k1'; have f0 := f0'; have f1 := f1'
    clear d0' d1' k0' k1' f0' f1'
    by_cases hu : u = 0
    · subst hu
      obtain ⟨L, hL⟩ : ∃ L, x + pw (32 - y) - 1 = L := ⟨_, rfl⟩
      have HL := hid_in hL
      have L0 : 0 ≤ L := by omega
      have L1 : L ≤ 8589934590 := by omega
      have eL : IntKind.i64.wrap (L + 1) = L + 1 := by rw [IntKind.wrap_i64]; omega
      have eX : IntKind.i64.wrap (x - 1) = x - 1 := by rw [IntKind.wrap_i64]; omega
      have lastL : ∀ W, Calls Try.prog 42 #[.agg #[.int .i64 x, .int .i64 y]] W fun e w' => e = .returned (.int .i64 L) ∧ Below W.heap.size W w' := fun W => by rw [← HL.out]; exact slast x y W a0 a1 b0' b1'
      have LL := hid_in lastL
      clear lastL hL hp hp2
      go_wp2_with fail
      go_region_held3 (fun w' => w'.cell? ⟨w2.heap.size, 0, none⟩ = some (.int .i64 x) ∧ w'.cell? ⟨w2.heap.size, 1, none⟩ = some (.int .i64 y)) (go_keep) (first | (go_at_call 42; refine (LL.out _).mono ?_; rintro e w5 ⟨rfl, hb5⟩; have s5 := hb5.size; (try simp at s5); have Z5 : Hid (Below w.heap.size w w5) := (by show Below _ _ _; exact below_later (by first | exact Z4.out.drew | exact Z5.out) hb5); have b0 : w5.cell? ⟨w2.heap.size, 0, none⟩ = some (.int .i64 x) := (((bcell hb5).1 w2.heap.size 0 (by first | omega | (simp; omega))).trans (by first | exact d0 | assumption)); have b1 : w5.cell? ⟨w2.heap.size, 1, none⟩ = some (.int .i64 y) := (((bcell hb5).1 w2.heap.size 1 (by first | omega | (simp; omega))).trans (by first | exact d1 | assumption)); have e0 : w5.cell? ⟨w.heap.size, 0, none⟩ = some (.int .i64 0) := (((bcell hb5).1 w.heap.size 0 (by first | omega | (simp; omega))).trans (by first | exact k0 | assumption)); have e1 : w5.cell? ⟨w.heap.size, 1, none⟩ = some (.int .i64 0) := (((bcell hb5).1 w.heap.size 1 (by first | omega | (simp; omega))).trans (by first | exact k1 | assumption)); have g0 : w5.frozen? ⟨w.heap.size, 0, none⟩ = false := (((bcell hb5).2 w.heap.size 0 (by first | omega | (simp; omega))).trans (by first | exact f0 | assumption)); have g1 : w5.frozen? ⟨w.heap.size, 1, none⟩ = false := (((bcell hb5).2 w.heap.size 1 (by first | omega | (simp; omega))).trans (by first | exact f1 | assumption)); have t1 : ¬ w.heap.size = w5.heap.size := (by omega); have t2 : ¬ w2.heap.size = w5.heap.size := (by omega); have t3 : w.heap.size < w5.heap.size := (by omega); have t4 : w2.heap.size < w5.heap.size := (by omega); have hb5b := hb5) | (go_at_call 41; refine (one4 (w.heap.size + 1) w5.heap.size sl (q + 1) x L (L + 1) (x - 1) _ (by repeat (first | exact H4.out | refine Rdr.drew ?_ | refine Rdr.poke ?_ (by omega) HA.out _ | refine Rdr.later ?_ (below_box _ _) | refine Rdr.later ?_ (by assumption))) (by omega) (by omega) (by omega) (by go_simp) (by go_simp) (by go_simp) (by go_simp)).mono ?_; rintro e w6 ⟨c, rfl, hc, h6, m6⟩; have s6 := m6.size; (try simp at s6); have b0' : w6.cell? ⟨w2.heap.size, 0, none⟩ = some (.int .i64 x) := ((m6.cell w2.heap.size 0 (by first | omega | (simp; omega)) (by omega)).trans (by rw [World.cell?_alloc_past _ _ _ t4]; exact b0)); have b1' : w6.cell? ⟨w2.heap.size, 1, none⟩ = some (.int .i64 y) := ((m6.cell w2.heap.size 1 (by first | omega | (simp; omega)) (by omega)).trans (by rw [World.cell?_alloc_past _ _ _ t4]; exact b1)); have e0' : w6.cell? ⟨w.heap.size, 0, none⟩ = some (.int .i64 0) := ((m6.cell w.heap.size 0 (by first | omega | (simp; omega)) (by omega)).trans (by rw [World.cell?_alloc_past _ _ _ t3]; exact e0)); have e1' : w6.cell? ⟨w.heap.size, 1, none⟩ = some (.int .i64 0) := ((m6.cell w.heap.size 1 (by first | omega | (simp; omega)) (by omega)).trans (by rw [World.cell?_alloc_past _ _ _ t3]; exact e1)); have g0' : w6.frozen? ⟨w.heap.size, 0, none⟩ = false := ((m6.frozen w.heap.size 0 (by first | omega | (simp; omega)) (by omega)).trans (by rw [World.frozen?_alloc_past _ _ _ t3]; exact g0)); have g1' : w6.frozen? ⟨w.heap.size, 1, none⟩ = false := ((m6.frozen w.heap.size 1 (by first | omega | (simp; omega)) (by omega)).trans (by rw [World.frozen?_alloc_past _ _ _ t3]; exact g1))))
      have cc : -10 ≤ c ∧ c ≤ 1099511627776 := by omega
      clear hc
      go_wp2_with fail
      refine bodyPost_ret (v := .tuple #[.agg #[.int .i64 x, .int .i64 y], .int .i64 c]) (by simp [results, Try.results9, go_sem, e0', e1']) rfl ⟨x, y, c, rfl, x0, x1, y0, y1, cc.1, cc.2, ?_⟩
      exact ((below_mv (Z5.out.alloc Z5.out.size _) (by omega : w.heap.size ≤ w.heap.size + 1) m6).setCell (Nat.le_refl _) _).setCell (Nat.le_refl _) _
    · have hu2 : (u == 0) = false := by simp [hu]
      clear hu
      go_wp2_with fail
      go_region_with (first | (go_at_call 43; refine (l12AnyAddr_any (w.heap.size + 1) sl (q + 1) _ (by first | exact H4.out.drew | exact ((H4.out.poke (by omega) HA.out _).poke (by omega) HA.out _).drew) (by omega) (by omega)).mono ?_; rintro e w5 ⟨c, rfl, c0, c1, ⟨q', _, _, h5⟩, m5⟩; have s5 := m5.size; have b0 := m5.cell w2.heap.size 0 (by simp; omega) (by omega); have b1 := m5.cell w2.heap.size 1 (by simp; omega) (by omega); have e0 := m5.cell w.heap.size 0 (by simp; omega) (by omega); have e1 := m5.cell w.heap.size 1 (by simp; omega) (by omega); have g0 := m5.frozen w.heap.size 0 (by simp; omega) (by omega); have g1 := m5.frozen w.heap.size 1 (by simp; omega) (by omega)))
      all_goals
        go_wp2_with fail
        refine bodyPost_ret (v := .tuple #[.agg #[.int .i64 x, .int .i64 y], .int .i64 c]) (by simp [results, Try.results9, go_sem, e0, e1, b0, b1, d0, d1, k0, k1, n1, n3]) rfl ⟨x, y, c, rfl, x0, x1, y0, y1, by omega, by omega, ?_⟩
        first | exact ((below_mv Z4.out.drew (by omega : w.heap.size ≤ w.heap.size + 1) m5).setCell (Nat.le_refl _) _).setCell (Nat.le_refl _) _ | exact below_mv ((Z4.out.setCell (Nat.le_refl _) _).setCell (Nat.le_refl _) _).drew (by omega : w.heap.size ≤ w.heap.size + 1) m5
end Go.Proofs.Ytjiiodcikicpfaa
