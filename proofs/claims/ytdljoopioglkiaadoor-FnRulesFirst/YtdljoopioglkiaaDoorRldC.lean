/- Any lists of rules drawn. The conditions stand at each theorem. -/
import Derived.Test.YtdljoopioglkiaaDoorRldB
namespace Go.Proofs.YtdljoopioglkiaaDoor
open Go.RowKit Go.LatT Go.BlockM Go.OpnT Go.RegE Go.ApdG
set_option linter.unusedVariables false
set_option linter.unusedSimpArgs false
/-- A table of n rows of eight numbers lies in a block that may be written. -/
structure TB (w : World) (g n : Nat) (E : Nat → Nat → Int) : Prop where
  lt : g < w.heap.size
  cell : ∀ i, i < n → ∀ j, j < 8 → w.cell? ⟨g, i * 8 + j, none⟩ = some (.int .i64 (E i j))
  fz : ∀ o, w.frozen? ⟨g, o, none⟩ = false
def updE (E : Nat → Nat → Int) (k j : Nat) (x : Int) : Nat → Nat → Int := fun i m => if i = k ∧ m = j then x else E i m
theorem TB.mv {w w' : World} {g n R : Nat} {E : Nat → Nat → Int} (h : TB w g n E) (m : Mv R w w') (hg : g ≠ R) : TB w' g n E :=
  ⟨Nat.lt_of_lt_of_le h.lt m.size, fun i hi j hj => (m.cell g _ h.lt hg).trans (h.cell i hi j hj), fun o => (m.frozen g o h.lt hg).trans (h.fz o)⟩
theorem TB.set {w : World} {g n : Nat} {E : Nat → Nat → Int} (h : TB w g n E) (k j : Nat) (hk : k < n) (hj : j < 8) (x : Int) : TB (w.setCell ⟨g, k * 8 + j, none⟩ (.int .i64 x)) g n (updE E k j x) := by
  refine ⟨by simpa using h.lt, fun i hi m hm => ?_, fun o => by rw [World.frozen?_setCell]; exact h.fz o⟩
  by_cases e : i = k ∧ m = j
  · obtain ⟨rfl, rfl⟩ := e
    rw [World.cell?_setCell_same' _ _ _ (by rw [h.cell i hi m hm]; rfl)]
    simp [updE]
  · have hne : i * 8 + m ≠ k * 8 + j := fun e2 => e ⟨by omega, by omega⟩
    have := h.cell i hi m hm
    simp only [updE, e, if_false]
    go_simp
theorem TB.tab {w : World} {g n : Nat} {E : Nat → Nat → Int} (h : TB w g n E) : Tab w (some ⟨g, 0, none⟩) n 8 E :=
  .inr ⟨g, 0, rfl, h.lt, fun i hi j hj => by rw [Nat.zero_add]; exact h.cell i hi j hj⟩
theorem owns_TB {w : World} {base n : Nat} {E : Nat → Nat → Int} {a : Option Addr} {c : Nat} (h : w.ownsRow base 34 8 (.slice a n c) n (flatC E 8 n)) (hn : 0 < n) : ∃ g, a = some ⟨g, 0, none⟩ ∧ base ≤ g ∧ n ≤ c ∧ c ≤ maxLen ∧ TB w g n E := by
  obtain ⟨a', c', e', hle, hT⟩ := tab_of_owns h
  obtain ⟨_, h2⟩ := h
  rcases h2 with ⟨h3, h4⟩ | ⟨g, cap, cur, e1, e2, e3, e4, e5, e6, e7⟩
  · omega
  · simp only [Value.slice.injEq] at e1 e'
    obtain ⟨rfl, _, rfl⟩ := e1
    obtain ⟨rfl, _, rfl⟩ := e'
    refine ⟨g, rfl, e2, e4, e5, (Array.getElem?_eq_some_iff.1 e3).1, fun i hi j hj => ?_, fun o => by unfold World.frozen?; simp [e3]⟩
    rcases hT with hT | ⟨bb, off, e8, _, hc⟩
    · omega
    · simp only [Option.some.injEq, Addr.mk.injEq] at e8
      obtain ⟨rfl, rfl, _⟩ := e8
      simpa using hc i hi j hj
/-- A table that stays, whatever the reader does, and whatever is done to blocks below B. -/
def TabM (B R : Nat) (w : World) (a : Option Addr) (n : Nat) (E : Nat → Nat → Int) : Prop :=
  ∀ W, w.heap.size ≤ W.heap.size → (∀ k, B ≤ k → k < w.heap.size → k ≠ R → W.heap[k]? = w.heap[k]?) → Tab W a n 8 E
theorem TabM.tab {B R : Nat} {w : World} {a : Option Addr} {n : Nat} {E : Nat → Nat → Int} (h : TabM B R w a n E) : Tab w a n 8 E := h w (Nat.le_refl _) fun _ _ _ _ => rfl
theorem TabM.mv {B R : Nat} {w w' : World} {a : Option Addr} {n : Nat} {E : Nat → Nat → Int} (h : TabM B R w a n E) (m : Mv R w w') : TabM B R w' a n E :=
  fun W hs hk => h W (Nat.le_trans m.size hs) fun k h1 h2 h3 => (hk k h1 (Nat.lt_of_lt_of_le h2 m.size) h3).trans (m.block k h2 h3)
theorem TabM.set {B R b o : Nat} {w : World} {a : Option Addr} {n : Nat} {E : Nat → Nat → Int} {v : Value} (h : TabM B R w a n E) (hb : b < B) : TabM B R (w.setCell ⟨b, o, none⟩ v) a n E :=
  fun W hs hk => h W (by simpa using hs) fun k h1 h2 h3 => (hk k h1 (by simpa using h2) h3).trans (Below.heap_setCell _ _ _ _ (show k ≠ b by omega))
theorem TB.tabM {B : Nat} {w : World} {g n R : Nat} {E : Nat → Nat → Int} (h : TB w g n E) (hg : g ≠ R) (hB : B ≤ g) : TabM B R w (some ⟨g, 0, none⟩) n E := fun W hs hk => by
  have e := hk g hB h.lt hg
  have q : TB W g n E := ⟨Nat.lt_of_lt_of_le h.lt hs, fun i hi j hj => by unfold World.cell?; rw [e]; exact h.cell i hi j hj, fun o => by unfold World.frozen?; rw [e]; exact h.fz o⟩
  exact q.tab
def lenV : Value → Nat
  | .slice _ n _ => n
  | _ => 0
theorem owns_tabM {B R : Nat} {w : World} {a : Option Addr} {n c : Nat} {E : Nat → Nat → Int} (h : w.ownsRow B 34 8 (.slice a n c) n (flatC E 8 n)) (hR : R < B) : TabM B R w a n E := by
  by_cases h0 : n = 0
  · exact fun _ _ _ => .inl h0
  · obtain ⟨g, rfl, h1, _, _, tb⟩ := owns_TB h (by omega)
    exact tb.tabM (by omega) h1
/-- What drawing any rules answers. -/
def RlaP (R : Nat) (sl : Value) (p : Int) (w : World) (e : Ending) (w' : World) : Prop :=
  ∃ (a : Option Addr) (n c : Nat) (E : Nat → Nat → Int) (q : Int), e = .returned (.slice a n c) ∧ TabM w.heap.size R w' a n E ∧ n ≤ 9 ∧ n ≤ c ∧ c ≤ maxLen ∧ p ≤ q ∧ q ≤ p + 22000 ∧ Rdr w' R sl q ∧ Mv R w w'
theorem owns_cap {w : World} {base n size : Nat} {e : TypeId} {a : Option Addr} {c : Nat} {xs : List Value} (h : w.ownsRow base e size (.slice a n c) n xs) : n ≤ c ∧ c ≤ maxLen := by
  obtain ⟨_, h2⟩ := h
  rcases h2 with ⟨h3, h4⟩ | ⟨g, cap, cur, e1, e2, e3, e4, e5, e6, e7⟩
  · simp only [Value.slice.injEq] at h3
    obtain ⟨_, rfl, rfl⟩ := h3
    exact ⟨Nat.le_refl _, Nat.zero_le _⟩
  · simp only [Value.slice.injEq] at e1
    obtain ⟨_, _, rfl⟩ := e1
    exact ⟨e4, e5⟩
set_option maxHeartbeats 2000000 in
set_option maxRecDepth 100000 in
theorem l12AnyRules_any (R : Nat) (sl : Value) (p : Int) (w : World) (h : Rdr w R sl p) (hp : 0 ≤ p) (hp' : p ≤ 600000000) :
    Calls Tryd.prog 57 #[.pointer (some ⟨R, 0, none⟩)] w fun e w' => RlaP R sl p w e w' := by
  have hlt := h.lt
  have HH := hid_in h
  clear h
  go_enter Tryd.func57, Tryd.ntmps57
  go_wp2_with fail
  refine (l12Rules_any R sl p _ HH.out hp (by omega)).mono ?_
  rintro e w1 ⟨v, n, E, q, rfl, o1, hn, hE, q0, q1, h1, m1⟩
  obtain ⟨a1, c1, rfl⟩ := owns_formR o1
  have OC := hid_in (owns_cap o1)
  by_cases hz : n = 0
  · subst hz
    have H1 := hid_in h1; have M1 := hid_in m1
    clear o1 h1 m1 hE
    go_wp2_with fail
    go_ret
    exact ⟨_, 0, _, E, q, rfl, fun _ _ _ => .inl rfl, by omega, OC.out.1, OC.out.2, by omega, by omega, H1.out, M1.out⟩
  · have hz' : ((n : Int) == 0) = false := by simp; omega
    have HL : Hid (LRl R sl q w n E (.slice a1 n c1) w1) := by show LRl _ _ _ _ _ _ _ _; exact ⟨m1, o1, hE, h1⟩
    obtain ⟨g, rfl, hg, _, _, tb⟩ := owns_TB o1 (by omega)
    have B1 := hid_in tb; have H1 := hid_in h1; have M1 := hid_in m1
    have hs1 := m1.size
    have hgl := tb.lt
    clear o1 h1 m1 hE tb
    go_wp2_with fail
    refine (pickM R sl q n _ H1.out (by omega) (by omega) (by omega) (by omega)).mono ?_
    rintro e w2 ⟨u2, rfl, ua, ub, h2, m2⟩
    obtain ⟨k, rfl⟩ := Int.eq_ofNat_of_zero_le ua
    have hk : k < n := by omega
    have H2 := hid_in h2; have B2 := hid_in (B1.out.mv m2 (by omega)); have M2 := hid_in (M1.out.trans m2); have O2 := hid_in (owns_mvR HL.out.2.1 m2 hlt)
    clear h2 m2 H1 B1 M1 ua
    go_wp2_with fail
    refine (pickM R sl _ 20 _ H2.out (by omega) (by omega) (by omega) (by omega)).mono ?_
    rintro e w3 ⟨u3, rfl, va, vb, h3, m3⟩
    have H3 := hid_in h3; have B3 := hid_in (B2.out.mv m3 (by omega)); have M3 := hid_in (M2.out.trans m3); have O3 := hid_in (owns_mvR O2.out m3 hlt)
    have hs3 := M3.out.size
    clear h3 m3 H2 B2 M2 O2
    have hb1 : (0 : Int) ≤ (k : Int) := by omega
    have hb2 : (k : Int) < (n : Int) := by omega
    by_cases z0 : u3 = 0
    · subst z0
      go_wp2_with fail
      refine (oneG R w3.heap.size sl _ [-1, 3, 0] 3 _ 3 w3 rfl rfl rfl H3.out (by omega) (by omega) (by simp) (by simp)).mono ?_
      rintro e w4 ⟨x, rfl, hx, h4, m4⟩
      have B4 := B3.out.mv m4 (by omega)
      have M4 := hid_in (M3.out.trans m4); have H4 := hid_in h4; have T4 := hid_in (TB.tabM (B := w.heap.size) (R := R) (B4.set k 0 hk (by omega) x) (by omega) (by omega))
      have k0 := B4.cell k hk 0 (by omega); have f0 := B4.fz (k * 8 + 0); have l0 := B4.lt
      simp only [Nat.add_zero] at k0 f0
      clear B4 B3 h4 m4 hx
      go_wp2_with fail
      go_ret
      exact ⟨_, n, _, _, _, rfl, T4.out, by omega, OC.out.1, OC.out.2, by omega, by omega, HH.out.poke H4.out M4.out (by omega) _, M4.out.poke (by omega) _⟩
    have y0 : (u3 == 0) = false := by simpa using z0
    by_cases z1 : u3 = 1
    · subst z1
      go_wp2_with fail
      refine (oneG R w3.heap.size sl _ [-1, 4, 1] 3 _ 3 w3 rfl rfl rfl H3.out (by omega) (by omega) (by simp) (by simp)).mono ?_
      rintro e w4 ⟨x, rfl, hx, h4, m4⟩
      have B4 := B3.out.mv m4 (by omega)
      have M4 := hid_in (M3.out.trans m4); have H4 := hid_in h4; have T4 := hid_in (TB.tabM (B := w.heap.size) (R := R) (B4.set k 1 hk (by omega) x) (by omega) (by omega))
      have k0 := B4.cell k hk 1 (by omega); have f0 := B4.fz (k * 8 + 1); have l0 := B4.lt
      clear B4 B3 h4 m4 hx
      go_wp2_with fail
      go_ret
      exact ⟨_, n, _, _, _, rfl, T4.out, by omega, OC.out.1, OC.out.2, by omega, by omega, HH.out.poke H4.out M4.out (by omega) _, M4.out.poke (by omega) _⟩
    have y1 : (u3 == 1) = false := by simpa using z1
    by_cases z2 : u3 = 2
    · subst z2
      go_wp2_with fail
      refine (oneG R w3.heap.size sl _ [-1, 65536] 2 _ 3 w3 rfl rfl rfl H3.out (by omega) (by omega) (by simp) (by simp)).mono ?_
      rintro e w4 ⟨x, rfl, hx, h4, m4⟩
      have B4 := B3.out.mv m4 (by omega)
      have M4 := hid_in (M3.out.trans m4); have H4 := hid_in h4; have T4 := hid_in (TB.tabM (B := w.heap.size) (R := R) (B4.set k 6 hk (by omega) x) (by omega) (by omega))
      have k0 := B4.cell k hk 6 (by omega); have f0 := B4.fz (k * 8 + 6); have l0 := B4.lt
      clear B4 B3 h4 m4 hx
      go_wp2_with fail
      go_ret
      exact ⟨_, n, _, _, _, rfl, T4.out, by omega, OC.out.1, OC.out.2, by omega, by omega, HH.out.poke H4.out M4.out (by omega) _, M4.out.poke (by omega) _⟩
    have y2 : (u3 == 2) = false := by simpa using z2
    by_cases z3 : u3 = 3
    · subst z3
      go_wp2_with fail
      refine (l12AnyBlock_any R sl _ _ H3.out (by omega) (by omega)).mono ?_
      rintro e w4 ⟨x, y, rfl, _, _, _, _, ⟨q4, c4, d4, h4⟩, m4⟩
      have B4 := B3.out.mv m4 (by omega)
      have M4 := hid_in (M3.out.trans m4); have H4 := hid_in h4; have T4 := hid_in (TB.tabM (B := w.heap.size) (R := R) ((B4.set k 2 hk (by omega) x).set k 3 hk (by omega) y) (by omega) (by omega))
      have k0 := B4.cell k hk 2 (by omega); have f0 := B4.fz (k * 8 + 2); have l0 := B4.lt
      have k1 := B4.cell k hk 3 (by omega); have f1 := B4.fz (k * 8 + 3)
      clear B4 B3 h4 m4
      go_wp2_with fail
      go_ret
      exact ⟨_, n, _, _, _, rfl, T4.out, by omega, OC.out.1, OC.out.2, by omega, by omega, HH.out.poke (HH.out.poke H4.out M4.out (by omega) _) (M4.out.poke (by omega) _) (by omega) _, (M4.out.poke (by omega) _).poke (by omega) _⟩
    have y3 : (u3 == 3) = false := by simpa using z3
    by_cases z4 : u3 = 4
    · subst z4
      have I0 : Hid (LRl R sl (q + 1 + 1) w n E (.slice (some ⟨g, 0, none⟩) n c1) w3) := by show LRl _ _ _ _ _ _ _ _; exact ⟨M3.out, O3.out, HL.out.2.2.1, H3.out⟩
      clear HL B3 H3 M3 O3 OC hgl hg
      go_wp2_with fail
      go_loopw [3] (fun s wr => ∃ (k : Nat) (E : Nat → Nat → Int) (q : Int) (a1 : Option Addr) (c1 : Nat), s = .slice a1 k c1 ∧ k ≤ 9 ∧ p ≤ q ∧ q ≤ p + 2000 + 200 * (k : Int) ∧ Hid (LRl R sl q w k E (.slice a1 k c1) wr)) (fun s _ => 10 - lenV s)
      case atStart => exact ⟨n, E, q + 1 + 1, _, _, rfl, by omega, by omega, by omega, I0⟩
      case round =>
        obtain ⟨k, E, q, a1, c1, rfl, hk, hq0, hq1, HW⟩ := hrel
        go_wp2_with fail
        refine (pickM R sl q 2 _ HW.out.2.2.2 (by omega) (by omega) (by omega) (by omega)).mono ?_
        rintro e w4 ⟨u4, rfl, xa, xb, h4, m4⟩
        have L4 : Hid (LRl R sl (q + 1) w k E (.slice a1 k c1) w4) := by show LRl _ _ _ _ _ _ _ _; exact ⟨HW.out.1.trans m4, owns_mvR HW.out.2.1 m4 hlt, HW.out.2.2.1, h4⟩
        clear HW h4 m4
        have hs4 := L4.out.1.size
        by_cases hd : (k : Int) < 8 + u4
        · have hk9 : k < 9 := by omega
          go_wp2_with fail
          refine (l12Rule_any R sl (q + 1) _ L4.out.2.2.2 (by omega) (by omega)).mono ?_
          rintro e w5 ⟨o, t, a, b, c, d, l, h, rfl, hok, ⟨q5, c5, d5, h5⟩, m5⟩
          have hs5 := m5.size
          have O5 := hid_in (owns_mvR L4.out.2.1 m5 hlt)
          have NX := hid_in (fun (v3 : Value) (w6 : World) (ob : Obj) (o3 : w6.ownsRow w.heap.size 34 8 v3 (k + 1) (flatC E 8 k ++ [.int .i64 o, .int .i64 t, .int .i64 a, .int .i64 b, .int .i64 c, .int .i64 d, .int .i64 l, .int .i64 h])) (g3 : (w5.alloc ob).grownBy w6 (Value.slice a1 k c1).ownBlock) => L4.out.next hlt ⟨p, HH.out⟩ m5 h5 hok ob o3 g3)
          clear h5 m5 hok
          go_wp2_with (at_builtin; refine wpG elemR rfl (.tmp 60) (.tmp 63) rfl w.heap.size _ k _ rfl (O5.out.alloc _) ⟨w5.heap.size, 0, none⟩ 1 1 [.int .i64 o, .int .i64 t, .int .i64 a, .int .i64 b, .int .i64 c, .int .i64 d, .int .i64 l, .int .i64 h] rfl rfl (cells_new _ _ _) (one8 _ _ _ _ _ _ _ _) (by omega) (by simp; omega) ?_; intro v3 w3 o3 g3 n3; obtain ⟨a3, c3, rfl⟩ := owns_formR o3; have O3 := hid_in o3; have G3 := hid_in g3; clear o3 g3 n3)
          exact ⟨⟨k + 1, _, q5, a3, c3, rfl, by omega, by omega, by omega, NX.out _ _ _ O3.out G3.out⟩, by simp [lenV]; omega⟩
        · have hd' : decide ((k : Int) < 8 + u4) = false := by simp; omega
          go_wp2_with fail
          go_ret
          have hT := owns_tabM L4.out.2.1 hlt
          exact ⟨_, k, _, E, q + 1, rfl, hT, by omega, (owns_cap L4.out.2.1).1, (owns_cap L4.out.2.1).2, by omega, by omega, L4.out.2.2.2, L4.out.1⟩
    · have y4 : (u3 == 4) = false := by simpa using z4
      go_wp2_with fail
      go_ret
      exact ⟨_, n, _, E, _, rfl, B3.out.tabM (by omega) (by omega), by omega, OC.out.1, OC.out.2, by omega, by omega, H3.out, M3.out⟩
end Go.Proofs.YtdljoopioglkiaaDoor
