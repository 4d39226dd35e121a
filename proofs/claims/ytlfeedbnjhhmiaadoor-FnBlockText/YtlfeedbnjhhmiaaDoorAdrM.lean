/- Plain mathematics: a number is read back from its figures, and figures are those of the number that they are; a text is its pieces, put together. No conditions of its own. -/
import Derived.Test.YtlfeedbnjhhmiaaDoorNumC
import Derived.Test.YtlfeedbnjhhmiaaDoorTxtB
namespace Go.Proofs.YtlfeedbnjhhmiaaDoor
open Go.RowKit Go.LatT Go.BlockM Go.PlainAid Go.OpnT
set_option linter.unusedVariables false
set_option linter.unusedSimpArgs false
/-- Bytes as a text. -/
def tx (l : List UInt8) : ByteArray := ⟨l.toArray⟩
theorem tx_size (l : List UInt8) : (tx l).size = l.length := rfl
theorem tx_data (s : ByteArray) : tx s.data.toList = s := rfl
theorem tx_toList (l : List UInt8) : (tx l).data.toList = l := rfl
theorem bt_tx {l : List UInt8} {k : Nat} (h : k < l.length) : bt (tx l) k = (l[k].toNat : Int) := by
  unfold bt
  rw [dif_pos (show k < (tx l).size from h)]
  rfl
def valL (l : List UInt8) : Int := l.foldl (fun v d => v * 10 + ((d.toNat : Int) - 48)) 0
theorem valL_snoc (l : List UInt8) (d : UInt8) : valL (l ++ [d]) = valL l * 10 + ((d.toNat : Int) - 48) := by
  unfold valL; rw [List.foldl_append]; rfl
theorem valK_take (l : List UInt8) : ∀ k, k ≤ l.length → valK (bt (tx l)) k = valL (l.take k)
  | 0, _ => rfl
  | k + 1, h => by
    have ih := valK_take l k (by omega)
    have e : l.take (k + 1) = l.take k ++ [l[k]] := by rw [List.take_add_one, List.getElem?_eq_getElem (by omega)]; rfl
    rw [e, valL_snoc, ← ih, ← bt_tx (show k < l.length by omega)]
    rfl
theorem valK_tx (l : List UInt8) : valK (bt (tx l)) (tx l).size = valL l := by
  rw [tx_size, valK_take l _ (Nat.le_refl _), List.take_length]
/-- Figures, without noughts ahead. -/
def PlainL (l : List UInt8) : Prop := l ≠ [] ∧ (∀ d, d ∈ l → 48 ≤ d.toNat ∧ d.toNat ≤ 57) ∧ (1 < l.length → l.head? ≠ some 48)
theorem plain_tx (l : List UInt8) : Plain (bt (tx l)) (tx l).size ↔ PlainL l := by
  rw [tx_size]
  constructor
  · rintro ⟨h0, h1, h2⟩
    refine ⟨fun e => h0 (by rw [e]; rfl), fun d hd => ?_, fun hl he => h1 ⟨hl, ?_⟩⟩
    · obtain ⟨k, hk, rfl⟩ := List.mem_iff_getElem.1 hd
      have := h2 k hk
      rw [bt_tx hk] at this
      omega
    · rw [bt_tx (by omega)]
      rw [List.head?_eq_getElem?, List.getElem?_eq_getElem (by omega)] at he
      rw [Option.some.inj he]; rfl
  · rintro ⟨h0, h1, h2⟩
    have hn : l.length ≠ 0 := fun e => h0 (List.length_eq_zero_iff.1 e)
    refine ⟨hn, fun ⟨a, b⟩ => h2 a ?_, fun k hk => ?_⟩
    · rw [bt_tx (by omega)] at b
      rw [List.head?_eq_getElem?, List.getElem?_eq_getElem (by omega)]
      have : l[0].toNat = (48 : UInt8).toNat := by show _ = 48; omega
      rw [UInt8.toNat_inj.1 this]
    · rw [bt_tx hk]
      have := h1 _ (List.getElem_mem hk)
      omega
theorem dig_back (d : UInt8) (h : 48 ≤ d.toNat ∧ d.toNat ≤ 57) : dig ((d.toNat : Int) - 48) = d := by
  unfold dig
  apply UInt8.toNat_inj.1
  rw [UInt8.toNat_ofNat']
  have := d.toNat_lt
  omega
theorem dig_val (d : Int) (h0 : 0 ≤ d) (h1 : d < 10) : ((dig d).toNat : Int) = 48 + d := by
  unfold dig
  rw [UInt8.toNat_ofNat']
  omega
theorem dec_read : ∀ (n : Nat) (l : List UInt8), l.length = n → PlainL l → decI (valL l) = l ∧ 0 ≤ valL l
  | 0, l, hn, h => absurd (List.length_eq_zero_iff.1 hn) h.1
  | n + 1, l, hn, h => by
    obtain ⟨m, d, rfl⟩ : ∃ m d, l = m ++ [d] := ⟨l.dropLast, l.getLast h.1, (List.dropLast_concat_getLast h.1).symm⟩
    have hd := h.2.1 d (by simp)
    rw [valL_snoc]
    by_cases hm : m = []
    · subst hm
      have e0 : valL [] = 0 := rfl
      rw [e0, Int.zero_mul, Int.zero_add, decI_one (by omega) (by omega), dig_back d hd]
      exact ⟨rfl, by omega⟩
    · have hml : 0 < m.length := List.length_pos_iff.2 hm
      have hhead : (m ++ [d]).head? = m.head? := by cases m with | nil => exact absurd rfl hm | cons a b => rfl
      have hh := h.2.2 (by simp; omega)
      rw [hhead] at hh
      obtain ⟨e1, e2⟩ := dec_read n m (by simpa using hn) ⟨hm, fun x hx => h.2.1 x (by simp [hx]), fun _ => hh⟩
      have hpos : 1 ≤ valL m := by
        rcases Int.lt_or_le (valL m) 1 with h' | h'
        · have h0 : valL m = 0 := by omega
          rw [h0, decI_one (by omega) (by omega)] at e1
          rw [← e1] at hh
          exact absurd rfl hh
        · exact h'
      refine ⟨?_, by omega⟩
      rw [decI_more (by omega), show (valL m * 10 + ((d.toNat : Int) - 48)) / 10 = valL m by omega, show (valL m * 10 + ((d.toNat : Int) - 48)) % 10 = (d.toNat : Int) - 48 by omega, e1, dig_back d hd]
theorem dec_head : ∀ (k : Nat) (n : Int), n.toNat ≤ k → 1 ≤ n → (decI n).head? ≠ some 48 ∧ decI n ≠ []
  | 0, n, hk, h => by omega
  | k + 1, n, hk, h => by
    by_cases h10 : n < 10
    · rw [decI_one (by omega) h10]
      refine ⟨fun e => ?_, by simp⟩
      have h1 : dig n = 48 := Option.some.inj e
      have := dig_val n (by omega) h10
      rw [h1] at this
      have h2 : ((48 : UInt8).toNat : Int) = 48 := rfl
      omega
    · obtain ⟨a, b⟩ := dec_head k (n / 10) (by omega) (by omega)
      rw [decI_more (by omega)]
      refine ⟨?_, by simp⟩
      cases hc : decI (n / 10) with
      | nil => exact absurd hc b
      | cons x y => rw [hc] at a; exact a
theorem dec_write : ∀ (k : Nat) (n : Int), n.toNat ≤ k → 0 ≤ n → PlainL (decI n) ∧ valL (decI n) = n
  | 0, n, hk, h => by
    have e : n = 0 := by omega
    subst e
    rw [decI_one (by omega) (by omega)]
    refine ⟨⟨by simp, fun d hd => ?_, fun h => absurd h (by simp)⟩, rfl⟩
    rw [List.mem_singleton.1 hd]; decide
  | k + 1, n, hk, h => by
    by_cases h10 : n < 10
    · rw [decI_one h h10]
      have hv := dig_val n h h10
      refine ⟨⟨by simp, fun d hd => ?_, fun h => absurd h (by simp)⟩, ?_⟩
      · rw [List.mem_singleton.1 hd]; omega
      · show (0 : Int) * 10 + (((dig n).toNat : Int) - 48) = n
        omega
    · obtain ⟨⟨a, b, c⟩, e⟩ := dec_write k (n / 10) (by omega) (by omega)
      have hh := dec_head n.toNat n (Nat.le_refl _) (by omega)
      have hv := dig_val (n % 10) (by omega) (by omega)
      refine ⟨⟨hh.2, fun d hd => ?_, fun _ => hh.1⟩, ?_⟩
      · rw [decI_more (by omega)] at hd
        rcases List.mem_append.1 hd with hd | hd
        · exact b d hd
        · rw [List.mem_singleton.1 hd]; omega
      · rw [decI_more (by omega), valL_snoc, e]; omega
/-- A text whose first byte c stands behind l. -/
theorem pieces_at {c : UInt8} (l r : List UInt8) (h : c ∉ l) : pieces c (tx (l ++ c :: r)) = tx l :: pieces c (tx r) := by
  have hsz : (tx (l ++ c :: r)).size = l.length + r.length + 1 := by rw [tx_size]; simp; omega
  have h1 : NoB (tx (l ++ c :: r)) c 0 l.length := by
    intro j _ hj he
    rw [bt_eq (by omega)] at he
    rw [tx_toList, List.getElem?_append_left hj] at he
    exact h (List.mem_of_getElem? he)
  have h2 : bt (tx (l ++ c :: r)) l.length = (c.toNat : Int) := by
    rw [bt_eq (by omega), tx_toList]; simp
  have := pieces_hit h1 (Nat.zero_le _) (by omega) h2
  rw [extract_all] at this
  rw [this]
  congr 1
  · apply ByteArray.ext
    rw [ByteArray.data_extract]
    apply Array.toList_inj.1
    simp [tx]
  · congr 1
    apply ByteArray.ext
    rw [ByteArray.data_extract]
    apply Array.toList_inj.1
    rw [hsz]
    simp [tx]
theorem pieces_none {c : UInt8} (l : List UInt8) (h : c ∉ l) : pieces c (tx l) = [tx l] := by
  have h1 : NoB (tx l) c 0 (tx l).size := by
    intro j _ hj he
    rw [bt_eq hj, tx_toList] at he
    exact h (List.mem_of_getElem? he)
  have := pieces_miss h1
  rw [extract_all] at this
  exact this
theorem pieces_cases (c : UInt8) (l : List UInt8) : (c ∉ l ∧ pieces c (tx l) = [tx l]) ∨ ∃ a b, l = a ++ c :: b ∧ c ∉ a ∧ pieces c (tx l) = tx a :: pieces c (tx b) := by
  by_cases h : c ∈ l
  · obtain ⟨a, b, rfl, ha⟩ := List.eq_append_cons_of_mem h
    exact .inr ⟨a, b, rfl, ha, pieces_at a b ha⟩
  · exact .inl ⟨h, pieces_none l h⟩
theorem pieces_four {c : UInt8} {l : List UInt8} (h : (pieces c (tx l)).length = 4) : ∃ a b d e, l = a ++ c :: (b ++ c :: (d ++ c :: e)) ∧ pieces c (tx l) = [tx a, tx b, tx d, tx e] := by
  rcases pieces_cases c l with ⟨_, h1⟩ | ⟨a, r, rfl, _, h1⟩
  · rw [h1] at h; simp at h
  · rw [h1] at h ⊢
    rcases pieces_cases c r with ⟨_, h2⟩ | ⟨b, r2, rfl, _, h2⟩
    · rw [h2] at h; simp at h
    · rw [h2] at h ⊢
      rcases pieces_cases c r2 with ⟨_, h3⟩ | ⟨d, r3, rfl, _, h3⟩
      · rw [h3] at h; simp at h
      · rw [h3] at h ⊢
        rcases pieces_cases c r3 with ⟨_, h4⟩ | ⟨e, r4, rfl, _, h4⟩
        · rw [h4]; exact ⟨a, b, d, r3, rfl, rfl⟩
        · rw [h4] at h
          have := pieces_len c (tx r4)
          simp only [List.length_cons] at h
          omega
theorem no46 {n : Int} {c : UInt8} (hn : 0 ≤ n) (hc : c.toNat < 48) : c ∉ decI n := by
  intro hm
  have := (dec_write n.toNat n (Nat.le_refl _) hn).1.2.1 c hm
  omega
theorem num8_dec {n : Int} (h0 : 0 ≤ n) (h1 : n ≤ 255) : Num8 (tx (decI n)) ∧ valK (bt (tx (decI n))) (tx (decI n)).size = n := by
  obtain ⟨a, b⟩ := dec_write n.toNat n (Nat.le_refl _) h0
  exact ⟨⟨(plain_tx _).2 a, by rw [valK_tx, b]; exact h1⟩, by rw [valK_tx, b]⟩
/-- What AddrText writes is read back. -/
theorem addr_write {a : Int} (h0 : 0 ≤ a) (h1 : a ≤ 4294967295) : ((pieces 46 (tx (addrT a))).length = 4 ∧ ∀ i, i < 4 → Num8 (pc (pieces 46 (tx (addrT a))) i)) ∧ accP (pieces 46 (tx (addrT a))) 4 = a := by
  have e : addrT a = decI (a / 16777216) ++ 46 :: (decI (a / 65536 % 256) ++ 46 :: (decI (a / 256 % 256) ++ 46 :: decI (a % 256))) := by simp [addrT]
  have hP : pieces 46 (tx (addrT a)) = [tx (decI (a / 16777216)), tx (decI (a / 65536 % 256)), tx (decI (a / 256 % 256)), tx (decI (a % 256))] := by
    rw [e, pieces_at _ _ (no46 (by omega) (by decide)), pieces_at _ _ (no46 (by omega) (by decide)), pieces_at _ _ (no46 (by omega) (by decide)), pieces_none _ (no46 (by omega) (by decide))]
  rw [hP]
  obtain ⟨a1, b1⟩ := num8_dec (n := a / 16777216) (by omega) (by omega)
  obtain ⟨a2, b2⟩ := num8_dec (n := a / 65536 % 256) (by omega) (by omega)
  obtain ⟨a3, b3⟩ := num8_dec (n := a / 256 % 256) (by omega) (by omega)
  obtain ⟨a4, b4⟩ := num8_dec (n := a % 256) (by omega) (by omega)
  refine ⟨⟨rfl, fun i hi => ?_⟩, ?_⟩
  · have : i = 0 ∨ i = 1 ∨ i = 2 ∨ i = 3 := by omega
    rcases this with rfl | rfl | rfl | rfl
    · exact a1
    · exact a2
    · exact a3
    · exact a4
  · show ((((0 * 256 + valK (bt (tx (decI (a / 16777216)))) (tx (decI (a / 16777216))).size) * 256 + valK (bt (tx (decI (a / 65536 % 256)))) (tx (decI (a / 65536 % 256))).size) * 256 + valK (bt (tx (decI (a / 256 % 256)))) (tx (decI (a / 256 % 256))).size) * 256 + valK (bt (tx (decI (a % 256)))) (tx (decI (a % 256))).size) = a
    rw [b1, b2, b3, b4]
    omega
/-- What AddrGet reads AddrText writes. -/
theorem addr_read {s : ByteArray} (h : (pieces 46 s).length = 4 ∧ ∀ i, i < 4 → Num8 (pc (pieces 46 s) i)) : tx (addrT (accP (pieces 46 s) 4)) = s ∧ 0 ≤ accP (pieces 46 s) 4 ∧ accP (pieces 46 s) 4 ≤ 4294967295 := by
  obtain ⟨hl, hn⟩ := h
  have hb := accP_four (Nat.le_refl 4) hn
  refine ⟨?_, hb.1, by omega⟩
  rw [← tx_data s] at hl hn ⊢
  obtain ⟨a, b, d, e, e1, e2⟩ := pieces_four hl
  have n0 := hn 0 (by omega); have n1 := hn 1 (by omega); have n2 := hn 2 (by omega); have n3 := hn 3 (by omega)
  rw [e2] at n0 n1 n2 n3 ⊢
  have key : ∀ x : List UInt8, Num8 (tx x) → decI (valL x) = x ∧ 0 ≤ valL x ∧ valL x ≤ 255 := by
    intro x hx
    have := dec_read x.length x rfl ((plain_tx x).1 hx.1)
    have h2 := hx.2
    rw [valK_tx] at h2
    exact ⟨this.1, this.2, h2⟩
  obtain ⟨k0, l0, m0⟩ := key a n0
  obtain ⟨k1, l1, m1⟩ := key b n1
  obtain ⟨k2, l2, m2⟩ := key d n2
  obtain ⟨k3, l3, m3⟩ := key e n3
  have hv : accP [tx a, tx b, tx d, tx e] 4 = (((0 * 256 + valL a) * 256 + valL b) * 256 + valL d) * 256 + valL e := by
    rw [← valK_tx a, ← valK_tx b, ← valK_tx d, ← valK_tx e]; rfl
  rw [hv, e1]
  congr 1
  unfold addrT
  rw [show ((((0 * 256 + valL a) * 256 + valL b) * 256 + valL d) * 256 + valL e) / 16777216 = valL a by omega, show ((((0 * 256 + valL a) * 256 + valL b) * 256 + valL d) * 256 + valL e) / 65536 % 256 = valL b by omega,
    show ((((0 * 256 + valL a) * 256 + valL b) * 256 + valL d) * 256 + valL e) / 256 % 256 = valL d by omega, show ((((0 * 256 + valL a) * 256 + valL b) * 256 + valL d) * 256 + valL e) % 256 = valL e by omega, k0, k1, k2, k3]
  simp
end Go.Proofs.YtlfeedbnjhhmiaaDoor
