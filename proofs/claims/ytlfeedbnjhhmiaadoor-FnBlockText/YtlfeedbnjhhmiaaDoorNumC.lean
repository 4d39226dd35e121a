/- Addresses read from texts, in the program and in the specification, as contracts. The conditions stand at each theorem. -/
import Derived.Test.YtlfeedbnjhhmiaaDoorNumB
import Derived.Test.YtlfeedbnjhhmiaaDoorShelf
namespace Go.Proofs.YtlfeedbnjhhmiaaDoor
open Go.RowKit Go.LatT Go.BlockM Go.PlainAid Go.OpnT
set_option linter.unusedVariables false
set_option linter.unusedSimpArgs false
theorem piece_size (sep : ByteArray) : ∀ (k : Nat) (s : ByteArray), ∀ p ∈ Lib.splitB sep 0 k s, p.size ≤ s.size
  | 0, s, p, h => by
    rw [Lib.splitB_zero] at h
    rw [List.mem_singleton.1 h]; exact Nat.le_refl _
  | k + 1, s, p, h => by
    unfold Lib.splitB at h
    split at h
    · rw [List.mem_singleton.1 h]; exact Nat.le_refl _
    · rcases List.mem_cons.1 h with rfl | h
      · rw [ByteArray.size_extract]; omega
      · refine Nat.le_trans (piece_size sep k _ p h) ?_
        rw [ByteArray.size_extract]; omega
theorem pieces_size {c : UInt8} {s p : ByteArray} (h : p ∈ pieces c s) : p.size ≤ s.size := piece_size _ _ _ p h
theorem pieces_len (c : UInt8) (s : ByteArray) : (pieces c s).length = Lib.countB s ⟨#[c]⟩ + 1 := Lib.splitB_all ⟨#[c]⟩ (show 1 ≤ 1 from Nat.le_refl 1) _ _ s rfl
theorem pieces_le (c : UInt8) (s : ByteArray) : (pieces c s).length ≤ s.size + 1 := by
  rw [pieces_len]
  have := Lib.countB_le ⟨#[c]⟩ (show 1 ≤ 1 from Nat.le_refl 1) s.size s (Nat.le_refl _)
  omega
/-- Piece i. -/
def pc (P : List ByteArray) (i : Nat) : ByteArray := P.getD i ByteArray.empty
/-- A number up to 255. -/
def Num8 (p : ByteArray) : Prop := Plain (bt p) p.size ∧ valK (bt p) p.size ≤ 255
/-- The first k pieces' numbers, put together. -/
def accP (P : List ByteArray) : Nat → Int
  | 0 => 0
  | k + 1 => accP P k * 256 + valK (bt (pc P k)) (pc P k).size
/-- What is read of the pieces. -/
def AddrPost (P : List ByteArray) (e : Ending) : Prop := ∃ v ok, e = .returned (.tuple #[.int .i64 v, .bool ok]) ∧ ((ok = true ∧ (P.length = 4 ∧ ∀ i, i < 4 → Num8 (pc P i)) ∧ v = accP P 4) ∨ (ok = false ∧ v = 0 ∧ ¬ (P.length = 4 ∧ ∀ i, i < 4 → Num8 (pc P i))))
theorem AddrPost.no {P : List ByteArray} (h : ¬ (P.length = 4 ∧ ∀ i, i < 4 → Num8 (pc P i))) : AddrPost P (.returned (.tuple #[.int .i64 0, .bool false])) := ⟨_, _, rfl, .inr ⟨rfl, rfl, h⟩⟩
theorem AddrPost.yes {P : List ByteArray} {v : Int} (h : P.length = 4 ∧ ∀ i, i < 4 → Num8 (pc P i)) (hv : v = accP P 4) : AddrPost P (.returned (.tuple #[.int .i64 v, .bool true])) := ⟨_, _, rfl, .inl ⟨rfl, h, hv⟩⟩
theorem AddrPost.one {P : List ByteArray} {e e' : Ending} (h : AddrPost P e) (h' : AddrPost P e') : e = e' := by
  obtain ⟨v, ok, rfl, h⟩ := h
  obtain ⟨v', ok', rfl, h'⟩ := h'
  rcases h with ⟨rfl, h, rfl⟩ | ⟨rfl, rfl, h⟩ <;> rcases h' with ⟨rfl, h', rfl⟩ | ⟨rfl, rfl, h'⟩
  · rfl
  · exact absurd h h'
  · exact absurd h' h
  · rfl
theorem num8_short {p : ByteArray} (h : Num8 p) : p.size ≤ 3 := by
  obtain ⟨⟨h0, h1, h2⟩, h3⟩ := h
  by_cases hn : 4 ≤ p.size
  · have hd := h2 0 (by omega)
    have := valK_big h2 (by
      by_cases e : bt p 0 = 48
      · exact absurd ⟨by omega, e⟩ h1
      · omega) hn
    omega
  · omega
theorem num8_yes {p : ByteArray} {v : Int} (h : Num8 p) (hv : NumS (bt p) p.size v) : v = valK (bt p) p.size ∧ inB v 0 255 = true := by
  have hs := num8_short h
  rcases hv with ⟨_, _, rfl⟩ | ⟨_, hn⟩
  · have := valK_nonneg h.1.2.2
    have := h.2
    exact ⟨rfl, by simp [inB]; omega⟩
  · exact absurd ⟨h.1, by omega⟩ hn
theorem num8_no {p : ByteArray} {v : Int} (h : ¬ Num8 p) (hv : NumS (bt p) p.size v) : inB v 0 255 = false := by
  rcases hv with ⟨hp, _, rfl⟩ | ⟨rfl, hn⟩
  · cases e : inB (valK (bt p) p.size) 0 255 with
    | false => rfl
    | true => exact absurd ⟨hp, by simp [inB] at e; omega⟩ h
  · simp [inB]
theorem accP_bound {P : List ByteArray} : ∀ {k : Nat}, (∀ i, i < k → Num8 (pc P i)) → 0 ≤ accP P k ∧ accP P k < 256 ^ k
  | 0, _ => by simp [accP]
  | k + 1, h => by
    have h1 := accP_bound (P := P) (k := k) (fun i hi => h i (by omega))
    have h2 := h k (by omega)
    have h3 := valK_nonneg h2.1.2.2
    have h4 := h2.2
    simp only [accP]
    rw [Int.pow_succ]
    omega
theorem accP_four {P : List ByteArray} {k : Nat} (hk : k ≤ 4) (h : ∀ i, i < k → Num8 (pc P i)) : 0 ≤ accP P k ∧ accP P k < 4294967296 := by
  have h1 := accP_bound h
  have e0 : (256 : Int) ^ 0 = 1 := by decide
  have e1 : (256 : Int) ^ 1 = 256 := by decide
  have e2 : (256 : Int) ^ 2 = 65536 := by decide
  have e3 : (256 : Int) ^ 3 = 16777216 := by decide
  have e4 : (256 : Int) ^ 4 = 4294967296 := by decide
  have hc : k = 0 ∨ k = 1 ∨ k = 2 ∨ k = 3 ∨ k = 4 := by omega
  rcases hc with rfl | rfl | rfl | rfl | rfl
  · rw [e0] at h1; omega
  · rw [e1] at h1; omega
  · rw [e2] at h1; omega
  · rw [e3] at h1; omega
  · rw [e4] at h1; omega
theorem or_i64 {a q : Int} (h0 : 0 ≤ a) (h1 : a < 4294967296) (h2 : 0 ≤ q) (h3 : q ≤ 255) : bits .or .i64 (a * 256) q = a * 256 + q := by
  obtain ⟨A, rfl⟩ := Int.eq_ofNat_of_zero_le h0
  obtain ⟨B, rfl⟩ := Int.eq_ofNat_of_zero_le h2
  have e : (A : Int) * 256 = ((256 * A : Nat) : Int) := by omega
  have hor : 256 * A ||| B = 256 * A + B := (Nat.two_pow_add_eq_or_of_lt (i := 8) (b := B) (by omega) A).symm
  rw [e]
  show IntKind.i64.wrap ((BitVec.ofInt 64 ((256 * A : Nat) : Int) ||| BitVec.ofInt 64 (B : Int)).toNat : Int) = _
  rw [BitVec.toNat_or, ofInt_u64 (256 * A) (by omega), ofInt_u64 B (by omega), hor]
  rw [wrap_i64_small _ (by omega) (by omega)]
  omega
/-- A row of texts. -/
def StrRow (w : World) (v : Value) (P : List ByteArray) : Prop := ∃ g cap, v = .slice (some ⟨g, 0, none⟩) P.length cap ∧ P.length ≤ cap ∧ g < w.heap.size ∧ ∀ j, j < P.length → w.cell? ⟨g, j, none⟩ = some (.string (pc P j))
theorem strRow_owns {w : World} {base : Nat} {v : Value} {P : List ByteArray} (h : w.ownsRow base 9 1 v P.length (P.map Value.string)) (h0 : P.length ≠ 0) : StrRow w v P := by
  have h' := h
  obtain ⟨h1, h2⟩ := h
  rcases h2 with ⟨_, h2⟩ | ⟨g, cap, cur, rfl, e2, e3, e4, e5, e6, e7⟩
  · exact absurd h2 h0
  · refine ⟨g, cap, rfl, e4, (Array.getElem?_eq_some_iff.1 e3).1, fun j hj => ?_⟩
    rw [h'.cellAt j (by omega), List.getElem?_map]
    unfold pc
    rw [List.getD_eq_getElem?_getD, List.getElem?_eq_getElem hj]
    rfl
theorem pc_mem {P : List ByteArray} {j : Nat} (h : j < P.length) : pc P j ∈ P := by
  unfold pc
  rw [List.getD_eq_getElem?_getD, List.getElem?_eq_getElem h]
  exact List.getElem_mem h
set_option maxHeartbeats 2000000 in
set_option maxRecDepth 100000 in
theorem addrGetS_any (s : ByteArray) (w : World) (hs : s.size ≤ 1048576) :
    Calls Tryd.prog 13 #[.string s] w fun e w' => AddrPost (pieces 46 s) e ∧ Below w.heap.size w w' := by
  have hcut : Calls Tryd.prog 48 #[.string s, .int .u8 46] w fun e w' => ∃ v, e = .returned v ∧ StrRow w' v (pieces 46 s) ∧ Below w.heap.size w w' := by
    refine (l1Cut_any s 46 w hs).mono ?_
    rintro e w' ⟨v, rfl, ho, hb⟩
    exact ⟨v, rfl, strRow_owns ho (by rw [pieces_len]; omega), hb⟩
  have hlen := pieces_len 46 s
  have hsz : ∀ p ∈ pieces 46 s, p.size ≤ 1048576 := fun p hp => Nat.le_trans (pieces_size hp) hs
  have hle := pieces_le 46 s
  have HS := hid_in hsz
  have hn : 1 ≤ (pieces 46 s).length := by omega
  have hn2 : (pieces 46 s).length ≤ 1048577 := by omega
  clear hlen hsz hle
  generalize pieces 46 s = P at hcut hn hn2 HS ⊢
  go_enter Tryd.func13, Tryd.ntmps13
  go_wp2_with fail
  refine hcut.mono ?_
  rintro e w1 ⟨v, rfl, hR, hb⟩
  clear hcut
  obtain ⟨g, cap, rfl, hcap, hg, hc⟩ := hR
  have HC := hid_in hc
  have HB := hid_in hb
  clear hc hb
  by_cases h4 : P.length = 4
  · have H4 := hid_in h4
    rw [h4]
    go_wp2_with fail
    go_loopw [5, 6] (fun a v wr => ∃ k : Nat, k ≤ 4 ∧ v = .int .i64 (k : Int) ∧ a = .int .i64 (accP P k) ∧ Hid (∀ i, i < k → Num8 (pc P i)) ∧ wr = w1) (fun _ v _ => 4 - (intOf v).toNat)
    case atStart => exact ⟨0, by omega, rfl, rfl, by show ∀ _, _; exact fun i hi => by omega, rfl⟩
    case round =>
      obtain ⟨k, hk, rfl, rfl, HW, rfl⟩ := hrel
      by_cases hlt : k < 4
      · have HL := hid_in hlt
        have hcell := HC.out k (by rw [H4.out]; exact hlt)
        have hps := HS.out _ (pc_mem (show k < P.length by rw [H4.out]; exact hlt))
        have hv := accP_four (by omega) HW.out
        have E := hid_in (show accP P (k + 1) = accP P k * 256 + valK (bt (pc P k)) (pc P k).size from rfl)
        clear h4
        by_cases hN : Num8 (pc P k)
        · have HN := hid_in hN
          have hv2 := valK_nonneg hN.1.2.2
          have hv3 := hN.2
          clear hN
          generalize hq : valK (bt (pc P k)) (pc P k).size = q at hv2 hv3 E
          generalize ha : accP P k = ac at hv E
          have HQ := hid_in hq
          clear hq
          go_wp2_with fail
          refine (l1Num_any (pc P k) _ hps).mono ?_
          rintro e w2 ⟨⟨v, rfl, hx⟩, rfl⟩
          obtain ⟨rfl, hin⟩ := num8_yes HN.out hx
          rw [HQ.out] at hin ⊢
          clear hx
          have HIN := hid_in hin
          clear hin
          go_wp2_with fail
          refine (l1In_any _ _ _ _ _ HIN.out).mono ?_
          rintro e w2 ⟨rfl, rfl⟩
          go_wp2_with fail
          refine ⟨⟨k + 1, HL.out, by simp, by rw [E.out], ?_, trivial⟩, by have := HL.out; simp [intOf]; omega⟩
          show ∀ _, _
          intro i hi
          by_cases hik : i < k
          · exact HW.out i hik
          · rw [show i = k by omega]; exact HN.out
        · have HN := hid_in hN
          clear hN
          generalize ha : accP P k = ac at hv E
          go_wp2_with fail
          refine (l1Num_any (pc P k) _ hps).mono ?_
          rintro e w2 ⟨⟨v, rfl, hx⟩, rfl⟩
          have HIN := hid_in (num8_no HN.out hx)
          clear hx
          go_wp2_with fail
          refine (l1In_any _ _ _ _ _ HIN.out).mono ?_
          rintro e w2 ⟨rfl, rfl⟩
          go_wp2_with fail
          go_returns
          exact ⟨AddrPost.no fun h => HN.out (h.2 k HL.out), HB.out⟩
      · have e : k = 4 := by omega
        have HE := hid_in e
        clear e
        go_wp2_with fail
        go_returns
        exact ⟨AddrPost.yes ⟨H4.out, by rw [← HE.out]; exact HW.out⟩ (by rw [HE.out]), HB.out⟩
  · have H4 := hid_in h4
    have h4' : ((P.length : Int) == 4) = false := by simp; omega
    go_wp2_with fail
    go_returns
    exact ⟨AddrPost.no fun h => H4.out h.1, HB.out⟩
set_option maxHeartbeats 2000000 in
set_option maxRecDepth 100000 in
theorem addrGet_any (s : ByteArray) (m : Int) (w : World) (hs : s.size ≤ 1048576) (hm : w.cell? ⟨0, 0, none⟩ = some (.int .i64 m)) :
    Calls Tryd.prog 10 #[.string s] w fun e w' => AddrPost (pieces 46 s) e ∧ Below w.heap.size w w' := by
  have hcut0 := Tryd.strings_Split s ⟨#[46]⟩ m w (by omega) hm (show 1 ≤ 1 from Nat.le_refl 1)
  have hlen := pieces_len 46 s
  have hcut : Calls Tryd.prog 42 #[.string s, .string ⟨#[46]⟩] w fun e w' => ∃ v, e = .returned v ∧ StrRow w' v (pieces 46 s) ∧ Below w.heap.size w w' := by
    refine hcut0.mono ?_
    rintro e w' ⟨rfl, rfl⟩
    have h := World.ownsRow_lit (base := w.heap.size) (e := 9) (size := 1) w ((pieces 46 s).map Value.string).toArray (pieces 46 s).length (Nat.le_refl _) (by have := pieces_le 46 s; unfold maxLen; omega) (by simp)
    rw [← hlen]
    exact ⟨_, rfl, strRow_owns h (by omega), below_box _ _⟩
  have hsz : ∀ p ∈ pieces 46 s, p.size ≤ 1048576 := fun p hp => Nat.le_trans (pieces_size hp) hs
  have hle := pieces_le 46 s
  have HS := hid_in hsz
  have hn : 1 ≤ (pieces 46 s).length := by omega
  have hn2 : (pieces 46 s).length ≤ 1048577 := by omega
  clear hlen hsz hle hcut0
  generalize pieces 46 s = P at hcut hn hn2 HS ⊢
  go_enter Tryd.func10, Tryd.ntmps10
  go_wp2_with fail
  refine hcut.mono ?_
  rintro e w1 ⟨v, rfl, hR, hb⟩
  clear hcut
  obtain ⟨g, cap, rfl, hcap, hg, hc⟩ := hR
  have HC := hid_in hc
  have HB := hid_in hb
  clear hc hb
  by_cases h4 : P.length = 4
  · have H4 := hid_in h4
    rw [h4]
    go_wp2_with fail
    go_loopw [5, 17] (fun a v wr => ∃ k : Nat, k ≤ 4 ∧ v = .int .i64 (k : Int) ∧ a = .int .i64 (accP P k) ∧ Hid (∀ i, i < k → Num8 (pc P i)) ∧ wr = w1) (fun _ v _ => 4 - (intOf v).toNat)
    case atStart => exact ⟨0, by omega, rfl, rfl, by show ∀ _, _; exact fun i hi => by omega, rfl⟩
    case round =>
      obtain ⟨k, hk, rfl, rfl, HW, rfl⟩ := hrel
      by_cases hlt : k < 4
      · have HL := hid_in hlt
        have hcell := HC.out k (by rw [H4.out]; exact hlt)
        have hps := HS.out _ (pc_mem (show k < P.length by rw [H4.out]; exact hlt))
        have hv := accP_four (by omega) HW.out
        have E := hid_in (show accP P (k + 1) = accP P k * 256 + valK (bt (pc P k)) (pc P k).size from rfl)
        clear h4
        by_cases hN : Num8 (pc P k)
        · have HN := hid_in hN
          have hv2 := valK_nonneg hN.1.2.2
          have hv3 := hN.2
          clear hN
          generalize hq : valK (bt (pc P k)) (pc P k).size = q at hv2 hv3 E
          generalize ha : accP P k = ac at hv E
          have HQ := hid_in hq
          clear hq
          go_wp2_with fail
          refine (numberGet_any (pc P k) 255 _ (by omega) (by omega) hps).mono ?_
          rintro e w2 ⟨⟨v, ok, rfl, hx⟩, rfl⟩
          obtain ⟨rfl, rfl⟩ : ok = true ∧ v = valK (bt (pc P k)) (pc P k).size := by
            rcases hx with ⟨h1, _, _, h2⟩ | ⟨_, _, h⟩
            · exact ⟨h1, h2⟩
            · exact absurd HN.out h
          rw [HQ.out]
          clear hx
          go_wp2_with fail
          refine ⟨⟨k + 1, HL.out, by simp, by rw [E.out, or_i64 hv.1 hv.2 hv2 hv3], ?_, trivial⟩, by have := HL.out; simp [intOf]; omega⟩
          show ∀ _, _
          intro i hi
          by_cases hik : i < k
          · exact HW.out i hik
          · rw [show i = k by omega]; exact HN.out
        · have HN := hid_in hN
          clear hN
          generalize ha : accP P k = ac at hv E
          go_wp2_with fail
          refine (numberGet_any (pc P k) 255 _ (by omega) (by omega) hps).mono ?_
          rintro e w2 ⟨⟨v, ok, rfl, hx⟩, rfl⟩
          obtain rfl : ok = false := by
            rcases hx with ⟨_, h1, h2, _⟩ | ⟨h, _, _⟩
            · exact absurd ⟨h1, h2⟩ HN.out
            · exact h
          clear hx
          go_wp2_with fail
          go_returns
          exact ⟨AddrPost.no fun h => HN.out (h.2 k HL.out), HB.out⟩
      · have e : k = 4 := by omega
        have HE := hid_in e
        clear e
        go_wp2_with fail
        go_returns
        exact ⟨AddrPost.yes ⟨H4.out, by rw [← HE.out]; exact HW.out⟩ (by rw [HE.out]), HB.out⟩
  · have H4 := hid_in h4
    have h4' : ((P.length : Int) == 4) = false := by simp; omega
    go_wp2_with fail
    go_returns
    exact ⟨AddrPost.no fun h => H4.out h.1, HB.out⟩
end Go.Proofs.YtlfeedbnjhhmiaaDoor
