/- A block put into a sum, in the specification, as a contract. The conditions stand at each theorem. -/
import Derived.Test.YtgamakiejaeeeaaDoorShaN
namespace Go.Proofs.YtgamakiejaeeeaaDoor
open Go.RowKit Go.LatT Go.BlockM Go.PlainAid Go.OpnT Go.ApdG Go.BytM Go.AesM Go.RowQ
set_option linter.unusedVariables false
set_option linter.unusedSimpArgs false
/-- What lies where while a block is put into a sum. -/
structure BS (w W : World) (gh gw gk gs : Nat) (s b F : Nat → Nat) : Prop where
  bel : Below w.heap.size w W
  h : UR W gh 8 s
  wd : UR W gw 64 (wds b)
  k : UR W gk 64 kst
  s : UR W gs 8 F
  fz : ∀ i, W.frozen? ⟨gs, i, none⟩ = false
  ne : w.heap.size ≤ gs ∧ gs ≠ gh ∧ gs ≠ gw ∧ gs ≠ gk
section
variable {w W W' : World} {gh gw gk gs : Nat} {s b F F' : Nat → Nat}
theorem BS.later (x : BS w W gh gw gk gs s b F) (hb : Below W.heap.size W W') : BS w W' gh gw gk gs s b F :=
  ⟨below_later x.bel hb, x.h.at hb x.h.lt, x.wd.at hb x.wd.lt, x.k.at hb x.k.lt, x.s.at hb x.s.lt, fun i => (hb.frozen (p := ⟨gs, i, none⟩) x.s.lt).trans (x.fz i), x.ne⟩
theorem BS.drewN (x : BS w W gh gw gk gs s b F) (n : Nat) : BS w (W.drewN n) gh gw gk gs s b F := ⟨⟨x.bel.os, x.bel.tape, x.bel.output, x.bel.size, x.bel.block⟩, ⟨x.h.lt, x.h.cell⟩, ⟨x.wd.lt, x.wd.cell⟩, ⟨x.k.lt, x.k.cell⟩, ⟨x.s.lt, x.s.cell⟩, x.fz, x.ne⟩
theorem BS.drew (x : BS w W gh gw gk gs s b F) : BS w W.drew gh gw gk gs s b F := ⟨⟨x.bel.os, x.bel.tape, x.bel.output, x.bel.size, x.bel.block⟩, ⟨x.h.lt, x.h.cell⟩, ⟨x.wd.lt, x.wd.cell⟩, ⟨x.k.lt, x.k.cell⟩, ⟨x.s.lt, x.s.cell⟩, x.fz, x.ne⟩
theorem UR.set_other {g n g' o : Nat} {f : Nat → Nat} {v : Value} (h : UR W g n f) (hne : g ≠ g') : UR (W.setCell ⟨g', o, none⟩ v) g n f :=
  ⟨by simpa using h.lt, fun i hi => (World.cell?_setCell_other _ _ _ _ (fun e => hne (congrArg Addr.block e).symm)).trans (h.cell i hi)⟩
theorem UR.congr {g n : Nat} {f f' : Nat → Nat} (h : UR W g n f) (e : ∀ i, i < n → f i = f' i) : UR W g n f' := ⟨h.lt, fun i hi => by rw [h.cell i hi, e i hi]⟩
theorem BS.set (x : BS w W gh gw gk gs s b F) (k v : Nat) (hk : k < 8) (e : ∀ i, i < 8 → (if i = k then v else F i) = F' i) : BS w (W.setCell ⟨gs, k, none⟩ (.int .u32 (v : Int))) gh gw gk gs s b F' := by
  refine ⟨x.bel.setCell x.ne.1 _, x.h.set_other (fun e => x.ne.2.1 e.symm), x.wd.set_other (fun e => x.ne.2.2.1 e.symm), x.k.set_other (fun e => x.ne.2.2.2 e.symm), ⟨by simpa using x.s.lt, fun i hi => ?_⟩, fun i => by rw [World.frozen?_setCell]; exact x.fz i, x.ne⟩
  rw [← e i hi]
  by_cases h : i = k
  · subst h
    rw [if_pos rfl]
    exact World.cell?_setCell_same' _ _ _ (by rw [x.s.cell i hi]; rfl)
  · rw [if_neg h]
    exact (World.cell?_setCell_other _ _ _ _ (fun e => h (congrArg Addr.off e).symm)).trans (x.s.cell i hi)
theorem BS.congr (x : BS w W gh gw gk gs s b F) (e : ∀ i, i < 8 → F i = F' i) : BS w W gh gw gk gs s b F' := ⟨x.bel, x.h, x.wd, x.k, x.s.congr e, x.fz, x.ne⟩
end
theorem owns_base {w : World} {B B' size n : Nat} {e : TypeId} {v : Value} {xs : List Value} (h : w.ownsRow B e size v n xs) (hB : B' ≤ B) : w.ownsRow B' e size v n xs := by
  obtain ⟨h1, h2⟩ := h
  refine ⟨h1, ?_⟩
  rcases h2 with h2 | ⟨g, cap, cur, e1, e2, e3, e4, e5, e6, e7⟩
  · exact .inl h2
  · exact .inr ⟨g, cap, cur, e1, Nat.le_trans hB e2, e3, e4, e5, e6, e7⟩
theorem rs3 (x a b c : Nat) : rr x a ^^^ rr x b ^^^ rr x c = rs x [a, b, c] := by simp [rs]
theorem xx3 (x a b c : Nat) (hx : x < 4294967296) : bits BinOp.xor IntKind.u32 (bits BinOp.xor IntKind.u32 (rr x a : Int) (rr x b : Int)) (rr x c : Int) = (rs x [a, b, c] : Int) := by
  rw [xor32 _ _ (rr_lt x a hx) (rr_lt x b hx), xor32 _ _ (Nat.xor_lt_two_pow (n := 32) (rr_lt x a hx) (rr_lt x b hx)) (rr_lt x c hx), rs3]
theorem chE (E F G : Nat) (hE : E < 4294967296) (hF : F < 4294967296) (hG : G < 4294967296) : bits BinOp.xor IntKind.u32 (bits BinOp.and IntKind.u32 (E : Int) (F : Int)) (bits BinOp.and IntKind.u32 (bits BinOp.xor IntKind.u32 IntKind.u32.max (E : Int)) (G : Int)) = ((((E &&& F) ^^^ ((4294967295 - E) &&& G)) : Nat) : Int) := by
  rw [not32 E hE, and32 E F hE hF, and32 (4294967295 - E) G (by omega) hG, xor32 _ _ (Nat.and_lt_two_pow (n := 32) E hF) (Nat.and_lt_two_pow (n := 32) _ hG)]
theorem mjE (A B C : Nat) (hA : A < 4294967296) (hB : B < 4294967296) (hC : C < 4294967296) : bits BinOp.xor IntKind.u32 (bits BinOp.xor IntKind.u32 (bits BinOp.and IntKind.u32 (A : Int) (B : Int)) (bits BinOp.and IntKind.u32 (A : Int) (C : Int))) (bits BinOp.and IntKind.u32 (B : Int) (C : Int)) = ((((A &&& B) ^^^ (A &&& C) ^^^ (B &&& C)) : Nat) : Int) := by
  rw [and32 A B hA hB, and32 A C hA hC, and32 B C hB hC, xor32 _ _ (Nat.and_lt_two_pow (n := 32) _ hB) (Nat.and_lt_two_pow (n := 32) _ hC), xor32 _ _ (Nat.xor_lt_two_pow (n := 32) (Nat.and_lt_two_pow (n := 32) _ hB) (Nat.and_lt_two_pow (n := 32) _ hC)) (Nat.and_lt_two_pow (n := 32) _ hC)]
theorem addE (H R C Y X : Nat) : ((((H : Int) + (R : Int) + (C : Int) + (Y : Int)) % 4294967296 + (X : Int)) % 4294967296) = (((H + R + C + Y + X) % 4294967296 : Nat) : Int) := by omega
theorem uC_one (n : Nat) (f : Nat → Nat) : ∀ u ∈ uC n f, u.oneCell' = true := by
  intro u hu
  simp [uC] at hu
  obtain ⟨i, _, rfl⟩ := hu
  rfl
set_option maxHeartbeats 8000000 in
set_option maxRecDepth 100000 in
theorem l7Block_any (gh ch gb ob cb : Nat) (s b : Nat → Nat) (w : World) (hH : UR w gh 8 s) (hB : BR w gb ob 64 b) (hs : ∀ i, i < 8 → s i < 4294967296) (hb : ∀ i, i < 64 → b i < 256) (hc : 64 ≤ cb) :
    Calls Tryd.prog 26 #[.slice (some ⟨gh, 0, none⟩) 8 ch, .slice (some ⟨gb, ob, none⟩) 64 cb] w fun e w' => MkU w 8 (shm b s) e w' := by
  have HH := hid_in hH; have HT := hid_in hs; have HY := hid_in hb
  have HW0 := hid_in (l7Words_any gb ob cb b w hB hb hc)
  have hgl := hH.lt
  clear hH hB hs hb
  go_enter Tryd.func26, Tryd.ntmps26
  go_wp2_with fail
  refine HW0.out.mono ?_
  rintro e w1 ⟨v1, rfl, ho1, hb1⟩
  obtain ⟨gw, cw, rfl, hcw, hgw, RW, _⟩ := ho1.row (by omega)
  have H1 := hid_in (HH.out.at hb1 hgl)
  have B1 := hid_in hb1
  have RW1 := hid_in RW
  clear HW0 ho1 hb1 RW HH
  go_wp2_with fail
  refine (l7Consts_any w1).mono ?_
  rintro e w2 ⟨v2, rfl, ho2, hb2⟩
  obtain ⟨gk, ck, rfl, hck, hgk, RK, _⟩ := ho2.row (by omega)
  have H2 := hid_in (H1.out.at hb2 H1.out.lt)
  have RW2 := hid_in (RW1.out.at hb2 RW1.out.lt)
  have B2 := hid_in (below_later B1.out hb2)
  have RK2 := hid_in RK
  have hne := hid_in (show gw < w2.heap.size ∧ gk < w2.heap.size ∧ gh < w2.heap.size from ⟨RW2.out.lt, RK.lt, H2.out.lt⟩)
  clear ho2 hb2 RK H1 RW1 B1
  go_wp2_with (first | (at_builtin; refine wpG elemU rfl (.tmp 20) (.tmp 21) rfl w2.heap.size (.slice (some ⟨w2.heap.size, 0, none⟩) 0 0) 0 [] rfl (World.ownsRow_lit w2 #[] 0 (Nat.le_refl _) (Nat.zero_le _) rfl) ⟨gh, 0, none⟩ 8 ch (uC 8 s) rfl (by rw [uC_len]) (fun j u hu => by
    have hj : j < 8 := by have := (List.getElem?_eq_some_iff.1 hu).1; rwa [uC_len] at this
    rw [uC_get 8 s j hj] at hu
    rw [add_at, Nat.zero_add, ← hu]
    exact ((below_box w2 _).cell (p := ⟨gh, j, none⟩) H2.out.lt).trans (H2.out.cell j hj)) (uC_one 8 s) (by omega) (by simp) ?_; intro v3 w3 o3 g3 n3; have O3 := hid_in o3; have G3 := hid_in g3; clear o3 g3 n3))
  have hB3 : Below w2.heap.size w2 w3 := (below_box w2 _).trans (grown_below G3.out (by simp) (fun k hk => by simp [Value.ownBlock] at hk; omega))
  have O3' : OU w3 w2.heap.size v3 8 s := by have h := O3.out; simpa [OU] using h
  obtain ⟨gs, cs, rfl, hcs, hgs, RS, hfs⟩ := O3'.row (by omega)
  have S3 := hid_in (show BS w w3 gh gw gk gs s b s from ⟨below_later B2.out hB3, H2.out.at hB3 hne.out.2.2, RW2.out.at hB3 hne.out.1, RK2.out.at hB3 hne.out.2.1, RS, hfs, Nat.le_trans B2.out.size hgs, by have := hne.out; omega, by have := hne.out; omega, by have := hne.out; omega⟩)
  clear hB3 O3' O3 G3 H2 RW2 RK2 hne B2 RS hfs
  go_loopw [8] (fun u wr => ∃ k : Nat, k ≤ 64 ∧ u = .int .i64 (k : Int) ∧ Hid (BS w wr gh gw gk gs s b (sh b s k))) (fun u _ => 64 - (intOf u).toNat)
  case atStart => exact ⟨0, Nat.zero_le _, rfl, S3⟩
  case round =>
    clear S3
    obtain ⟨k, hk, rfl, HS⟩ := hrel
    by_cases hlt : k < 64
    · have HL := hid_in hlt
      have q1 : (k : Int) < 64 := by omega
      have hst := sh_lt (b := b) HT.out k
      have h0 := hst 0 (by omega)
      have h1 := hst 1 (by omega)
      have h2 := hst 2 (by omega)
      have h4 := hst 4 (by omega)
      have h5 := hst 5 (by omega)
      have h6 := hst 6 (by omega)
      have c0 := HS.out.s.cell 0 (by omega)
      have c1 := HS.out.s.cell 1 (by omega)
      have c2 := HS.out.s.cell 2 (by omega)
      have c4 := HS.out.s.cell 4 (by omega)
      have c5 := HS.out.s.cell 5 (by omega)
      have c6 := HS.out.s.cell 6 (by omega)
      have c7 := HS.out.s.cell 7 (by omega)
      have cw' := HS.out.wd.cell k hlt
      have ck' := HS.out.k.cell k hlt
      have l1 := HS.out.s.lt
      have l2 := HS.out.wd.lt
      have l3 := HS.out.k.lt
      clear hst
      obtain ⟨F, hF⟩ : ∃ F, sh b s k = F := ⟨_, rfl⟩
      have HF := hid_in (show ∀ i, sh b s (k + 1) i = shs (kst k) (wds b k) F i by intro i; rw [← hF]; rfl)
      rw [hF] at c0 c1 c2 c4 c5 c6 c7 h0 h1 h2 h4 h5 h6 HS
      clear hF
      go_wp2_with fail
      refine wp_region_lat (Below.refl _ _) (by kernel_rfl) (by kernel_rfl) ?_
      intro hne hcl
      repeat (go_big_quiet_step (first | (go_at_call_of 31 (Value.int IntKind.i64 6); exact lat_of (l7Turn_any (F 4) 6 _ h4 (by omega) (by omega))) | (go_at_call_of 31 (Value.int IntKind.i64 11); exact lat_of (l7Turn_any (F 4) 11 _ h4 (by omega) (by omega))) | (go_at_call_of 31 (Value.int IntKind.i64 25); exact lat_of (l7Turn_any (F 4) 25 _ h4 (by omega) (by omega)))))
      refine wpQuiet_nil ?_
      intro w1 hb1
      obtain ⟨hc1, hf1⟩ := bcell hb1
      clear hne hcl
      rw [xx3 (F 4) 6 11 25 h4]
      have HS1 := hid_in (HS.out.later hb1)
      clear hb1 hc1 hf1 HS
      clear c0 c1 c2 c4 c5 c6 c7 cw' ck' l1 l2 l3
      have c0 := HS1.out.s.cell 0 (by omega)
      have c1 := HS1.out.s.cell 1 (by omega)
      have c2 := HS1.out.s.cell 2 (by omega)
      have c4 := HS1.out.s.cell 4 (by omega)
      have c5 := HS1.out.s.cell 5 (by omega)
      have c6 := HS1.out.s.cell 6 (by omega)
      have c7 := HS1.out.s.cell 7 (by omega)
      have cw' := HS1.out.wd.cell k HL.out
      have ck' := HS1.out.k.cell k HL.out
      have l1 := HS1.out.s.lt
      have l2 := HS1.out.wd.lt
      have l3 := HS1.out.k.lt
      go_wp2_with fail
      go_quiet (fail)
      have HS2 := hid_in (HS1.out.drewN nq)
      rw [show (if IntKind.u32.signed = true then (-1 : Int) else IntKind.u32.max) = IntKind.u32.max from rfl, chE (F 4) (F 5) (F 6) h4 h5 h6]
      generalize w1.drewN nq = w4 at *
      clear HS1
      clear c0 c1 c2 c4 c5 c6 c7 cw' ck' l1 l2 l3
      have c0 := HS2.out.s.cell 0 (by omega)
      have c1 := HS2.out.s.cell 1 (by omega)
      have c2 := HS2.out.s.cell 2 (by omega)
      have c4 := HS2.out.s.cell 4 (by omega)
      have c5 := HS2.out.s.cell 5 (by omega)
      have c6 := HS2.out.s.cell 6 (by omega)
      have c7 := HS2.out.s.cell 7 (by omega)
      have cw' := HS2.out.wd.cell k HL.out
      have ck' := HS2.out.k.cell k HL.out
      have l1 := HS2.out.s.lt
      have l2 := HS2.out.wd.lt
      have l3 := HS2.out.k.lt
      go_wp2_with fail
      go_quiet (fail)
      have HS3 := hid_in (HS2.out.drewN nq)
      rw [addE (F 7) (rs (F 4) [6, 11, 25]) (F 4 &&& F 5 ^^^ (4294967295 - F 4) &&& F 6) (kst k) (wds b k)]
      generalize w4.drewN nq = w5 at *
      clear HS2
      clear c0 c1 c2 c4 c5 c6 c7 cw' ck' l1 l2 l3
      have c0 := HS3.out.s.cell 0 (by omega)
      have c1 := HS3.out.s.cell 1 (by omega)
      have c2 := HS3.out.s.cell 2 (by omega)
      have c4 := HS3.out.s.cell 4 (by omega)
      have c5 := HS3.out.s.cell 5 (by omega)
      have c6 := HS3.out.s.cell 6 (by omega)
      have c7 := HS3.out.s.cell 7 (by omega)
      have cw' := HS3.out.wd.cell k HL.out
      have ck' := HS3.out.k.cell k HL.out
      have l1 := HS3.out.s.lt
      have l2 := HS3.out.wd.lt
      have l3 := HS3.out.k.lt
      go_wp2_with fail
      refine wp_region_lat (Below.refl _ _) (by kernel_rfl) (by kernel_rfl) ?_
      intro hne hcl
      repeat (go_big_quiet_step (first | (go_at_call_of 31 (Value.int IntKind.i64 2); exact lat_of (l7Turn_any (F 0) 2 _ h0 (by omega) (by omega))) | (go_at_call_of 31 (Value.int IntKind.i64 13); exact lat_of (l7Turn_any (F 0) 13 _ h0 (by omega) (by omega))) | (go_at_call_of 31 (Value.int IntKind.i64 22); exact lat_of (l7Turn_any (F 0) 22 _ h0 (by omega) (by omega)))))
      refine wpQuiet_nil ?_
      intro w1 hb1
      obtain ⟨hc1, hf1⟩ := bcell hb1
      clear hne hcl
      rw [xx3 (F 0) 2 13 22 h0]
      have HS4 := hid_in (HS3.out.later hb1)
      generalize hww : w1 = w6 at *
      clear hww hb1 hc1 hf1 HS3
      clear c0 c1 c2 c4 c5 c6 c7 cw' ck' l1 l2 l3
      have c0 := HS4.out.s.cell 0 (by omega)
      have c1 := HS4.out.s.cell 1 (by omega)
      have c2 := HS4.out.s.cell 2 (by omega)
      have c4 := HS4.out.s.cell 4 (by omega)
      have c5 := HS4.out.s.cell 5 (by omega)
      have c6 := HS4.out.s.cell 6 (by omega)
      have c7 := HS4.out.s.cell 7 (by omega)
      have cw' := HS4.out.wd.cell k HL.out
      have ck' := HS4.out.k.cell k HL.out
      have l1 := HS4.out.s.lt
      have l2 := HS4.out.wd.lt
      have l3 := HS4.out.k.lt
      go_wp2_with fail
      go_quiet (fail)
      have HS5 := hid_in (HS4.out.drewN nq)
      rw [mjE (F 0) (F 1) (F 2) h0 h1 h2]
      generalize w6.drewN nq = w7 at *
      clear HS4
      clear c0 c1 c2 c4 c5 c6 c7 cw' ck' l1 l2 l3
      go_wp2_with fail
      obtain ⟨T, hT⟩ : ∃ T, F 7 + rs (F 4) [6, 11, 25] + (F 4 &&& F 5 ^^^ (4294967295 - F 4) &&& F 6) + kst k + wds b k = T := ⟨_, rfl⟩
      obtain ⟨A, hA⟩ : ∃ A, rs (F 0) [2, 13, 22] = A := ⟨_, rfl⟩
      obtain ⟨M, hM⟩ : ∃ M, F 0 &&& F 1 ^^^ F 0 &&& F 2 ^^^ F 1 &&& F 2 = M := ⟨_, rfl⟩
      have HF0 := hid_in ((HF.out 0).trans (show _ = (T + (A + M)) % 4294967296 by rw [nxt, hT, hA, hM]))
      have HF4 := hid_in ((HF.out 4).trans (show _ = (F 3 + T) % 4294967296 by rw [nxt4, hT]))
      have HFS := hid_in (show ∀ i, i ≠ 0 → i ≠ 4 → sh b s (k + 1) i = F (i - 1) from fun i e0 e4 => (HF.out i).trans (nxtS _ _ _ i e0 e4))
      rw [hT, hA, hM]
      clear hT hA hM HF h0 h1 h2 h4 h5 h6
      go_loopw [14] (fun u wr => ∃ n : Nat, n ≤ 7 ∧ u = .int .i64 (n : Int) ∧ Hid (BS w wr gh gw gk gs s b (fun i => if i ≤ n then F i else F (i - 1)))) (fun u _ => (intOf u).toNat)
      case atStart => exact ⟨7, Nat.le_refl _, rfl, HS5.out.congr (fun i hi => by rw [if_pos (by omega)])⟩
      case round =>
        clear HS5
        obtain ⟨n, hn, rfl, HV⟩ := hrel
        by_cases hn0 : 0 < n
        · have q2 : (0 : Int) < (n : Int) := by omega
          obtain ⟨j, hj⟩ : ∃ j, n - 1 = j := ⟨_, rfl⟩
          have ej : (n : Int) - 1 = (j : Int) := by omega
          have q3 : (j : Int) < 8 := by omega
          have q4 : (n : Int) < 8 := by omega
          have cj := HV.out.s.cell j (by omega)
          rw [if_pos (by omega)] at cj
          have cn := HV.out.s.cell n (by omega)
          have fn := HV.out.fz n
          have lg := HV.out.s.lt
          have HJ := hid_in (show j ≤ 7 ∧ j + 1 = n by omega)
          have wj : IntKind.i64.wrap (j : Int) = (j : Int) := by rw [IntKind.wrap_i64]; omega
          clear hj
          go_wp2_with fail
          refine ⟨⟨j, HJ.out.1, rfl, ?_⟩, by have := HJ.out; simp [intOf]; omega⟩
          refine HV.out.set n (F j) (by omega) (fun i hi => ?_)
          have := HJ.out.2
          show (if i = n then F j else if i ≤ n then F i else F (i - 1)) = if i ≤ j then F i else F (i - 1)
          by_cases e : i = n
          · rw [if_pos e, if_neg (by omega), show i - 1 = j by omega]
          · by_cases e2 : i ≤ j
            · rw [if_neg e, if_pos (by omega), if_pos e2]
            · rw [if_neg e, if_neg (by omega), if_neg e2]
        · have q2 : ¬ (0 : Int) < (n : Int) := by omega
          obtain rfl : n = 0 := by omega
          have c4 := HV.out.s.cell 4 (by omega)
          have c0 := HV.out.s.cell 0 (by omega)
          rw [if_neg (by omega)] at c4
          rw [if_pos (by omega)] at c0
          have f4 := HV.out.fz 4
          have f0 := HV.out.fz 0
          have lg := HV.out.s.lt
          have e4 : ((F 3 : Int) + (T : Int)) % 4294967296 = (((F 3 + T) % 4294967296 : Nat) : Int) := by omega
          have e0 : ((T : Int) + (A : Int) + (M : Int)) % 4294967296 = (((T + (A + M)) % 4294967296 : Nat) : Int) := by omega
          have E4 := hid_in e4; have E0 := hid_in e0
          clear e4 e0
          go_wp2_with fail
          refine ⟨⟨k + 1, HL.out, by simp, ?_⟩, by have := HL.out; simp [intOf]; omega⟩
          show BS _ _ _ _ _ _ _ _ _
          rw [E4.out, E0.out]
          have X4 := HV.out.set (F' := fun i => if i = 4 then (F 3 + T) % 4294967296 else if i ≤ 0 then F i else F (i - 1)) 4 ((F 3 + T) % 4294967296) (by omega) (fun i _ => rfl)
          refine X4.set 0 ((T + (A + M)) % 4294967296) (by omega) (fun i hi => ?_)
          show (if i = 0 then (T + (A + M)) % 4294967296 else if i = 4 then (F 3 + T) % 4294967296 else if i ≤ 0 then F i else F (i - 1)) = sh b s (k + 1) i
          by_cases z0 : i = 0
          · rw [if_pos z0, z0, HF0.out]
          · by_cases z4 : i = 4
            · rw [if_neg z0, if_pos z4, z4, HF4.out]
            · rw [if_neg z0, if_neg z4, if_neg (by omega), HFS.out i z0 z4]
    · have q1 : ¬ (k : Int) < 64 := by omega
      obtain rfl : k = 64 := by omega
      obtain ⟨w8, hw8⟩ : ∃ x, x = wr := ⟨_, rfl⟩
      subst hw8
      have HS6 := hid_in (show BS w w8 gh gw gk gs s b (sh b s 64) from HS.out)
      clear HS
      go_wp2_with fail
      have HU0 := hid_in (show US w8 (w8.alloc (.cells #[] 44)) (.slice (some ⟨w8.heap.size, 0, none⟩) 0 0) 0 (shm b s) from ⟨below_box _ _, World.ownsRow_lit w8 #[] 0 (Nat.le_refl _) (Nat.zero_le _) rfl⟩)
      go_loopw [15, 16] (fun v u wq => ∃ i : Nat, i ≤ 8 ∧ u = .int .i64 (i : Int) ∧ Hid (US w8 wq v i (shm b s))) (fun _ u _ => 8 - (intOf u).toNat)
      case atStart => exact ⟨0, Nat.zero_le _, rfl, HU0⟩
      case round =>
        clear HU0
        obtain ⟨i, hi, rfl, HU⟩ := hrel
        by_cases hlt2 : i < 8
        · have HL := hid_in hlt2
          have q2 : (i : Int) < 8 := by omega
          have ch' := (HU.out.bel.cell (p := ⟨gh, i, none⟩) HS6.out.h.lt).trans (HS6.out.h.cell i hlt2)
          have cs' := (HU.out.bel.cell (p := ⟨gs, i, none⟩) HS6.out.s.lt).trans (HS6.out.s.cell i hlt2)
          have l1 := Nat.lt_of_lt_of_le HS6.out.h.lt HU.out.bel.size
          have l2 := Nat.lt_of_lt_of_le HS6.out.s.lt HU.out.bel.size
          have hzz := HU.out.bel.size
          have HE := hid_in (show ((s i : Int) + (sh b s 64 i : Int)) % 4294967296 = ((shm b s i : Nat) : Int) by unfold shm; omega)
          generalize hA : s i = A at *
          generalize hB : sh b s 64 i = B at *
          clear hA hB
          go_wp2_with fail
          go_region_held3 (fun w' => w'.cell? ⟨gh, i, none⟩ = some (.int .u32 (A : Int)) ∧ w'.cell? ⟨gs, i, none⟩ = some (.int .u32 (B : Int))) (first | (go_keep; done) | (refine ⟨?_, ?_⟩ <;> first | assumption | (go_keep; done) | (go_simp; done))) (first | (refine wpG1 elemU (.tmp 142) (.tmp 152) rfl w8.heap.size _ i _ rfl (HU.out.own.alloc _) ⟨wr.heap.size, 0, none⟩ 1 1 [.int .u32 _] rfl rfl (cells_new _ _ _) (one_u32 _) (by omega) (by simp; omega) ?_; intro v3 w3' o3 g3 n3; have O3 := hid_in o3; have G3 := hid_in g3; have z3 := grown_below (B := w8.heap.size) g3 (by simp; omega) (fun g hg => (owns_own HU.out.own g hg).1); have y0 := (z3.cell (p := ⟨gh, i, none⟩) HS6.out.h.lt).trans (by first | (go_keep; done) | go_simp : _ = some (Value.int .u32 (A : Int))); have y1 := (z3.cell (p := ⟨gs, i, none⟩) HS6.out.s.lt).trans (by first | (go_keep; done) | go_simp : _ = some (Value.int .u32 (B : Int))); clear o3 g3 n3 z3))
          go_wp2_with fail
          refine ⟨⟨i + 1, HL.out, by simp, ?_⟩, by have := HL.out; simp [intOf]; omega⟩
          have hO := O3.out
          have hG := G3.out
          have hw := HE.out
          first
          | rw [show IntKind.u32.wrap ((A : Int) + (B : Int)) = ((shm b s i : Nat) : Int) by rw [IntKind.wrap_u32]; exact hw] at hO
          | rw [hw] at hO
          first
          | exact HU.out.nextD (b := shm b s i) hO hG rfl
          | exact HU.out.next (b := shm b s i) hO hG rfl
        · have q2 : ¬ (i : Int) < 8 := by omega
          obtain rfl : i = 8 := by omega
          have HX := hid_in HU.out.done
          have HB8 := hid_in HS6.out.bel
          go_wp2_with fail
          go_ret
          obtain ⟨v, hv, ho, hb⟩ := HX.out
          exact ⟨v, hv, owns_base ho HB8.out.size, below_later HB8.out hb⟩
end Go.Proofs.YtgamakiejaeeeaaDoor
