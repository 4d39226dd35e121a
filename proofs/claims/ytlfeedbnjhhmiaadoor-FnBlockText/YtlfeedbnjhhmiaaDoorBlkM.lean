/- Plain mathematics: a block is read back from its text, and what is read is written so. No conditions of its own. -/
import Derived.Test.YtlfeedbnjhhmiaaDoorAdrM
import Derived.Test.YtlfeedbnjhhmiaaDoorNumE
namespace Go.Proofs.YtlfeedbnjhhmiaaDoor
open Go.RowKit Go.LatT Go.BlockM Go.PlainAid Go.OpnT
set_option linter.unusedVariables false
set_option linter.unusedSimpArgs false
theorem index_at {c : UInt8} (l r : List UInt8) (h : c ∉ l) : Lib.indexB (tx (l ++ c :: r)) ⟨#[c]⟩ = (l.length : Int) := by
  have hsz : (tx (l ++ c :: r)).size = l.length + r.length + 1 := by rw [tx_size]; simp; omega
  have h1 : NoB (tx (l ++ c :: r)) c 0 l.length := by
    intro j _ hj he
    rw [bt_eq (by omega)] at he
    rw [tx_toList, List.getElem?_append_left hj] at he
    exact h (List.mem_of_getElem? he)
  have h2 : bt (tx (l ++ c :: r)) l.length = (c.toNat : Int) := by
    rw [bt_eq (by omega), tx_toList]; simp
  have := cut_hit h1 (Nat.zero_le _) (by omega) h2
  rw [extract_all] at this
  rw [this]; omega
theorem index_none {c : UInt8} (l : List UInt8) (h : c ∉ l) : Lib.indexB (tx l) ⟨#[c]⟩ = -1 := by
  have h1 : NoB (tx l) c 0 (tx l).size := by
    intro j _ hj he
    rw [bt_eq hj, tx_toList] at he
    exact h (List.mem_of_getElem? he)
  have := cut_miss h1
  rw [extract_all] at this
  exact this
theorem front_at {c : UInt8} (l r : List UInt8) (h : c ∉ l) : front c (tx (l ++ c :: r)) = tx l ∧ back c (tx (l ++ c :: r)) = tx r := by
  have hi := index_at l r h
  have hsz : (tx (l ++ c :: r)).size = l.length + r.length + 1 := by rw [tx_size]; simp; omega
  unfold front back
  rw [hi, if_neg (by omega), if_neg (by omega)]
  constructor
  · apply ByteArray.ext
    rw [ByteArray.data_extract]
    apply Array.toList_inj.1
    simp [tx]
  · apply ByteArray.ext
    rw [ByteArray.data_extract]
    apply Array.toList_inj.1
    rw [hsz]
    simp [tx]
theorem back_none {c : UInt8} (l : List UInt8) (h : c ∉ l) : back c (tx l) = tx [] := by
  unfold back
  rw [if_pos (index_none l h)]
  rfl
theorem no47 {a : Int} (h0 : 0 ≤ a) (h1 : a ≤ 4294967295) : (47 : UInt8) ∉ addrT a := by
  have n1 := no46 (n := a / 16777216) (c := 47) (by omega) (by decide)
  have n2 := no46 (n := a / 65536 % 256) (c := 47) (by omega) (by decide)
  have n3 := no46 (n := a / 256 % 256) (c := 47) (by omega) (by decide)
  have n4 := no46 (n := a % 256) (c := 47) (by omega) (by decide)
  simp [addrT, n1, n2, n3, n4]
theorem not_plain_nil : ¬ Plain (bt (tx [])) (tx []).size := fun h => h.1 rfl
/-- What BlockGet says of a text. -/
def BlkSays (s : ByteArray) (a b : Int) (ok : Bool) : Prop := (ok = true ∧ Good (front 47 s) (back 47 s) ∧ a = AVal (front 47 s) ∧ b = valK (bt (back 47 s)) (back 47 s).size) ∨ (ok = false ∧ a = 0 ∧ b = 0 ∧ ¬ Good (front 47 s) (back 47 s))
theorem BlkSays.one {s : ByteArray} {a b a' b' : Int} {ok ok' : Bool} (h : BlkSays s a b ok) (h' : BlkSays s a' b' ok') : a = a' ∧ b = b' ∧ ok = ok' := by
  rcases h with ⟨rfl, h, rfl, rfl⟩ | ⟨rfl, rfl, rfl, h⟩ <;> rcases h' with ⟨rfl, h', rfl, rfl⟩ | ⟨rfl, rfl, rfl, h'⟩
  · exact ⟨rfl, rfl, rfl⟩
  · exact absurd h h'
  · exact absurd h' h
  · exact ⟨rfl, rfl, rfl⟩
theorem blk_write {a b x y : Int} {ok : Bool} (h : BlkSays (tx (if okB a b then blockT a b else [])) x y ok) : ok = okB a b ∧ (ok = true → x = a ∧ y = b) := by
  cases e : okB a b
  · rw [e] at h
    rcases h with ⟨_, h, _⟩ | ⟨rfl, _⟩
    · have : back 47 (tx (if false = true then blockT a b else [])) = tx [] := back_none [] (by simp)
      have h2 := h.2.1
      rw [this] at h2
      exact absurd h2 not_plain_nil
    · exact ⟨rfl, fun h => nomatch h⟩
  · rw [e] at h
    obtain ⟨a0, a1, b0, b1, _⟩ := ok_of e
    have e2 : (if true = true then blockT a b else []) = addrT a ++ 47 :: decI b := by simp [blockT]
    rw [e2] at h
    obtain ⟨f1, f2⟩ := front_at (addrT a) (decI b) (no47 a0 a1)
    obtain ⟨w1, w2⟩ := addr_write a0 a1
    obtain ⟨d1, d2⟩ := dec_write b.toNat b (Nat.le_refl _) b0
    have hA : AOk (tx (addrT a)) := w1
    have hV : AVal (tx (addrT a)) = a := w2
    have hG : Good (tx (addrT a)) (tx (decI b)) := ⟨hA, (plain_tx _).2 d1, by rw [valK_tx, d2]; exact b1, by rw [hV, valK_tx, d2]; exact e⟩
    unfold BlkSays at h
    rw [f1, f2, hV, valK_tx, d2] at h
    rcases h with ⟨rfl, _, rfl, rfl⟩ | ⟨_, _, _, h⟩
    · exact ⟨rfl, fun _ => ⟨rfl, rfl⟩⟩
    · exact absurd hG h
theorem blk_read {s : ByteArray} {a b : Int} (h : BlkSays s a b true) : okB a b = true ∧ tx (blockT a b) = s := by
  rcases h with ⟨_, h, rfl, rfl⟩ | ⟨h, _⟩
  · obtain ⟨g1, g2, g3, g4⟩ := h
    refine ⟨g4, ?_⟩
    have e0 : tx s.data.toList = s := rfl
    rw [← e0] at g1 g2 ⊢
    generalize s.data.toList = l at g1 g2 ⊢
    by_cases hm : (47 : UInt8) ∈ l
    · obtain ⟨u, r, rfl, hu⟩ := List.eq_append_cons_of_mem hm
      obtain ⟨f1, f2⟩ := front_at u r hu
      rw [f1] at g1
      rw [f2] at g2
      rw [f1, f2, valK_tx]
      have r1 := (addr_read g1).1
      have r2 := (dec_read r.length r rfl ((plain_tx r).1 g2)).1
      have r3 : addrT (AVal (tx u)) = u := by
        have := congrArg (fun z : ByteArray => z.data.toList) r1
        exact this
      unfold blockT
      rw [r3, r2]
      simp
    · rw [back_none l hm] at g2
      exact absurd g2 not_plain_nil
  · cases h
theorem blkT_len (a b : Int) : (tx (if okB a b then blockT a b else [])).size ≤ 2000 := by
  cases e : okB a b
  · exact Nat.zero_le _
  · obtain ⟨a0, a1, b0, b1, _⟩ := ok_of e
    have := addrT_len a0 a1
    have lb : (decI b).length ≤ 100 := Nat.le_trans (decI_len 12 _ (by omega) (by omega)) (by omega)
    show (blockT a b).length ≤ 2000
    simp [blockT]
    omega
theorem blockGetN (s : ByteArray) (m : Int) (w : World) (hs : s.size ≤ 1048576) (hm : w.cell? ⟨0, 0, none⟩ = some (.int .i64 m)) :
    Calls Tryd.prog 16 #[.string s] w fun e w' => ∃ a b ok, e = .returned (.tuple #[.agg #[.int .i64 a, .int .i64 b], .bool ok]) ∧ BlkSays s a b ok ∧ Below w.heap.size w w' :=
  (blockGet_any s m w hs hm).mono fun e w' ⟨⟨a, b, ok, he, h⟩, hb⟩ => ⟨a, b, ok, he, h, hb⟩
theorem blockGetSN (s : ByteArray) (w : World) (hs : s.size ≤ 1048576) :
    Calls Tryd.prog 21 #[.string s] w fun e w' => ∃ a b ok, e = .returned (.tuple #[.agg #[.int .i64 a, .int .i64 b], .bool ok]) ∧ BlkSays s a b ok ∧ Below w.heap.size w w' :=
  (blockGetS_any s w hs).mono fun e w' ⟨⟨a, b, ok, he, h⟩, hb⟩ => ⟨a, b, ok, he, h, hb⟩
end Go.Proofs.YtlfeedbnjhhmiaaDoor
