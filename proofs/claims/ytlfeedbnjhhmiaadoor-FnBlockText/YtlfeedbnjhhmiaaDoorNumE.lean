/- Blocks read from texts, in the program and in the specification, as contracts. The conditions stand at each theorem. -/
import Derived.Test.YtlfeedbnjhhmiaaDoorNumD
namespace Go.Proofs.YtlfeedbnjhhmiaaDoor
open Go.RowKit Go.LatT Go.BlockM Go.PlainAid Go.OpnT
set_option linter.unusedVariables false
set_option linter.unusedSimpArgs false
/-- What an address's reader gives. -/
def AOk (F : ByteArray) : Prop := (pieces 46 F).length = 4 ∧ ∀ i, i < 4 → Num8 (pc (pieces 46 F) i)
def AVal (F : ByteArray) : Int := accP (pieces 46 F) 4
/-- The two parts are a block. -/
def Good (F K : ByteArray) : Prop := AOk F ∧ Plain (bt K) K.size ∧ valK (bt K) K.size ≤ 32 ∧ okB (AVal F) (valK (bt K) K.size) = true
def BlkPost (F K : ByteArray) (e : Ending) : Prop := ∃ a b ok, e = .returned (.tuple #[.agg #[.int .i64 a, .int .i64 b], .bool ok]) ∧ ((ok = true ∧ Good F K ∧ a = AVal F ∧ b = valK (bt K) K.size) ∨ (ok = false ∧ a = 0 ∧ b = 0 ∧ ¬ Good F K))
theorem BlkPost.no {F K : ByteArray} (h : ¬ Good F K) : BlkPost F K (.returned (.tuple #[.agg #[.int .i64 0, .int .i64 0], .bool false])) := ⟨_, _, _, rfl, .inr ⟨rfl, rfl, rfl, h⟩⟩
theorem BlkPost.yes {F K : ByteArray} {a b : Int} (h : Good F K) (ha : a = AVal F) (hb : b = valK (bt K) K.size) : BlkPost F K (.returned (.tuple #[.agg #[.int .i64 a, .int .i64 b], .bool true])) := ⟨_, _, _, rfl, .inl ⟨rfl, h, ha, hb⟩⟩
/-- The parts ahead of and behind the first byte c. -/
def front (c : UInt8) (s : ByteArray) : ByteArray := if Lib.indexB s ⟨#[c]⟩ = -1 then s else s.extract 0 (Lib.indexB s ⟨#[c]⟩).toNat
def back (c : UInt8) (s : ByteArray) : ByteArray := if Lib.indexB s ⟨#[c]⟩ = -1 then ⟨#[]⟩ else s.extract ((Lib.indexB s ⟨#[c]⟩).toNat + 1) s.size
theorem front_size (c : UInt8) (s : ByteArray) : (front c s).size ≤ s.size := by
  unfold front
  split
  · exact Nat.le_refl _
  · rw [ByteArray.size_extract]; omega
theorem back_size (c : UInt8) (s : ByteArray) : (back c s).size ≤ s.size := by
  unfold back
  split
  · exact Nat.zero_le _
  · rw [ByteArray.size_extract]; omega
theorem cut_front (c : UInt8) (s : ByteArray) : (⟨(Lib.cut s.data.toList [c]).1.toArray⟩ : ByteArray) = front c s := by
  apply ByteArray.ext
  apply Array.ext'
  have h := Lib.index_ge s.data.toList [c]
  unfold Lib.cut front
  by_cases e : Lib.indexB s ⟨#[c]⟩ = -1
  · rw [if_pos e, if_neg (by show ¬ 0 ≤ Lib.indexB s ⟨#[c]⟩; omega)]
  · rw [if_neg e, if_pos (by show 0 ≤ Lib.indexB s ⟨#[c]⟩; have : -1 ≤ Lib.indexB s ⟨#[c]⟩ := h; omega), Lib.extract_from_zero]
theorem cut_back (c : UInt8) (s : ByteArray) : (⟨(Lib.cut s.data.toList [c]).2.1.toArray⟩ : ByteArray) = back c s := by
  apply ByteArray.ext
  apply Array.ext'
  have h := Lib.index_ge s.data.toList [c]
  unfold Lib.cut back
  by_cases e : Lib.indexB s ⟨#[c]⟩ = -1
  · rw [if_pos e, if_neg (by show ¬ 0 ≤ Lib.indexB s ⟨#[c]⟩; omega)]
  · rw [if_neg e, if_pos (by show 0 ≤ Lib.indexB s ⟨#[c]⟩; have : -1 ≤ Lib.indexB s ⟨#[c]⟩ := h; omega), Lib.extract_to_end]
    rfl
/-- A part that is cut further has the byte. -/
theorem pieces_one {c : UInt8} {s : ByteArray} (h : (pieces c s).length ≠ 1) : ∃ j, j < s.size ∧ bt s j = (c.toNat : Int) := by
  rcases Lib.index_spec s.data.toList [c] with ⟨h1, h2⟩ | ⟨i, h1, h2, h3, h4⟩
  · exfalso
    apply h
    unfold pieces
    rw [Lib.splitB_miss _ _ _ _ h1]; rfl
  · rw [occ_one] at h3
    have hlt : i < s.size := by
      have := (List.getElem?_eq_some_iff.1 h3).1
      simpa using this
    exact ⟨i, hlt, (bt_eq hlt c).2 h3⟩
theorem pieces_single {c : UInt8} {s : ByteArray} (h : (pieces c s).length = 1) : pieces c s = [s] := by
  rcases Lib.index_spec s.data.toList [c] with ⟨h1, h2⟩ | ⟨i, h1, h2, h3, h4⟩
  · unfold pieces
    rw [Lib.splitB_miss _ _ _ _ h1]
  · exfalso
    rw [pieces_len, Lib.countB_hit s ⟨#[c]⟩ i (show 1 ≤ 1 from Nat.le_refl 1) h1] at h
    omega
/-- Two pieces are the two parts; else the second part is no number. -/
theorem parts_two {s : ByteArray} : (pieces 47 s = [front 47 s, back 47 s]) ∨ ((pieces 47 s).length ≠ 2 ∧ ¬ Plain (bt (back 47 s)) (back 47 s).size) := by
  by_cases e : Lib.indexB s ⟨#[47]⟩ = -1
  · right
    constructor
    · unfold pieces
      rw [Lib.splitB_miss _ _ _ _ e]
      show 1 ≠ 2
      decide
    · unfold back
      rw [if_pos e]
      exact fun h => h.1 rfl
  · have hge : -1 ≤ Lib.indexB s ⟨#[47]⟩ := Lib.index_ge _ _
    obtain ⟨i, hi⟩ := Int.eq_ofNat_of_zero_le (show 0 ≤ Lib.indexB s ⟨#[47]⟩ by omega)
    have hp : pieces 47 s = front 47 s :: pieces 47 (back 47 s) := by
      unfold front back
      rw [if_neg e, if_neg e]
      unfold pieces
      rw [Lib.countB_hit s ⟨#[47]⟩ i (show 1 ≤ 1 from Nat.le_refl 1) hi, Nat.add_comm 1, Lib.splitB_hit _ _ _ _ i hi, hi]
      rfl
    by_cases h1 : (pieces 47 (back 47 s)).length = 1
    · left
      rw [hp, pieces_single h1]
    · right
      constructor
      · rw [hp, List.length_cons]; omega
      · obtain ⟨j, hj, hc⟩ := pieces_one h1
        intro h
        have := h.2.2 j hj
        rw [hc] at this
        have e47 : ((47 : UInt8).toNat : Int) = 47 := rfl
        omega
theorem aval_of {F : ByteArray} (h : AOk F) : 0 ≤ AVal F ∧ AVal F ≤ 4294967295 := by
  have := accP_four (P := pieces 46 F) (k := 4) (Nat.le_refl _) h.2
  unfold AVal; omega
theorem good_num {F K : ByteArray} {n : Int} (hF : AOk F) (hn : NumS (bt K) K.size n) : (okB (AVal F) n = true ∧ Good F K ∧ n = valK (bt K) K.size) ∨ (okB (AVal F) n = false ∧ ¬ Good F K) := by
  rcases hn with ⟨hp, h9, rfl⟩ | ⟨rfl, hn⟩
  · cases e : okB (AVal F) (valK (bt K) K.size) with
    | true => exact .inl ⟨rfl, ⟨hF, hp, (ok_of e).2.2.2.1, e⟩, rfl⟩
    | false => exact .inr ⟨rfl, fun h => by rw [h.2.2.2] at e; cases e⟩
  · refine .inr ⟨?_, fun h => hn ⟨h.2.1, ?_⟩⟩
    · cases e : okB (AVal F) (-1) with
      | true => have := (ok_of e).2.2.1; omega
      | false => rfl
    · have := num8_short (p := K) ⟨h.2.1, by have := h.2.2.1; omega⟩
      omega
theorem after_ok {w3 w4 : World} {b : Nat} {av n : Int} {T : TypeId} (hq : b < w3.heap.size) (r0 : w3.cell? ⟨b, 0, none⟩ = some (.int .i64 0)) (r1 : w3.cell? ⟨b, 1, none⟩ = some (.int .i64 0)) (f0 : w3.frozen? ⟨b, 0, none⟩ = false) (f1 : w3.frozen? ⟨b, 1, none⟩ = false)
    (hb : Below (w3.alloc (.cells #[.int .i64 av, .int .i64 n] T)).heap.size (w3.alloc (.cells #[.int .i64 av, .int .i64 n] T)) w4) :
    (w4.cell? ⟨b, 0, none⟩ = some (.int .i64 0) ∧ w4.cell? ⟨b, 1, none⟩ = some (.int .i64 0)) ∧ (w4.frozen? ⟨b, 0, none⟩ = false ∧ w4.frozen? ⟨b, 1, none⟩ = false) ∧ (w4.cell? ⟨w3.heap.size, 0, none⟩ = some (.int .i64 av) ∧ w4.cell? ⟨w3.heap.size, 1, none⟩ = some (.int .i64 n)) ∧ w3.heap.size < w4.heap.size := by
  have hz := hb.size
  simp only [World.size_alloc] at hz
  have hz1 : w3.heap.size < (w3.alloc (.cells #[.int .i64 av, .int .i64 n] T)).heap.size := by simp
  have h3 := below_under hb
  obtain ⟨c3, g3⟩ := bcell h3
  obtain ⟨c4, g4⟩ := bcell hb
  refine ⟨⟨(c3 _ _ hq).trans r0, (c3 _ _ hq).trans r1⟩, ⟨(g3 _ _ hq).trans f0, (g3 _ _ hq).trans f1⟩, ⟨?_, ?_⟩, by omega⟩
  · rw [c4 _ _ hz1]; go_simp
  · rw [c4 _ _ hz1]; go_simp
set_option maxHeartbeats 2000000 in
set_option maxRecDepth 100000 in
theorem blockGetS_any (s : ByteArray) (w : World) (hs : s.size ≤ 1048576) :
    Calls Tryd.prog 21 #[.string s] w fun e w' => BlkPost (front 47 s) (back 47 s) e ∧ Below w.heap.size w w' := by
  have hcut : ∀ w, Calls Tryd.prog 48 #[.string s, .int .u8 47] w fun e w' => ∃ v, e = .returned v ∧ StrRow w' v (pieces 47 s) ∧ Below w.heap.size w w' := by
    intro w
    refine (l1Cut_any s 47 w hs).mono ?_
    rintro e w' ⟨v, rfl, ho, hb⟩
    exact ⟨v, rfl, strRow_owns ho (by rw [pieces_len]; omega), hb⟩
  have hle := pieces_le 47 s
  have hF := Nat.le_trans (front_size 47 s) hs
  have hK := Nat.le_trans (back_size 47 s) hs
  rcases parts_two (s := s) with hP | ⟨h2, hN⟩
  · rw [hP] at hcut
    clear hle hP
    generalize front 47 s = F at hcut hF ⊢
    generalize back 47 s = K at hcut hK ⊢
    go_enter Tryd.func21, Tryd.ntmps21
    go_wp2_with fail
    refine (hcut _).mono ?_
    rintro e w1 ⟨v, rfl, ⟨g, cap, rfl, hcap, hg, hc⟩, hb⟩
    clear hcut
    have c0 : w1.cell? ⟨g, 0, none⟩ = some (.string F) := hc 0 (Nat.zero_lt_succ _)
    have c1 : w1.cell? ⟨g, 1, none⟩ = some (.string K) := hc 1 (Nat.lt_succ_self _)
    have hz := hb.size
    simp only [World.size_alloc] at hz
    have r0 : w1.cell? ⟨w.heap.size, 0, none⟩ = some (.int .i64 0) := by rw [(bcell hb).1 _ _ (by simp)]; go_simp
    have r1 : w1.cell? ⟨w.heap.size, 1, none⟩ = some (.int .i64 0) := by rw [(bcell hb).1 _ _ (by simp)]; go_simp
    have f0 : w1.frozen? ⟨w.heap.size, 0, none⟩ = false := by rw [(bcell hb).2 _ _ (by simp)]; go_simp
    have f1 : w1.frozen? ⟨w.heap.size, 1, none⟩ = false := by rw [(bcell hb).2 _ _ (by simp)]; go_simp
    have HB := hid_in (below_under hb)
    have HH := hid_in (And.intro (And.intro r0 r1) (And.intro f0 f1))
    have C1 := hid_in c1
    clear hc hb r0 r1 f0 f1
    have e2 : [F, K].length = 2 := rfl
    rw [e2]
    clear hcap e2
    go_wp2_with fail
    refine (addrGetS_any F _ hF).mono ?_
    rintro e w2 ⟨⟨av, ok, rfl, hx⟩, hb2⟩
    have hz2 := hb2.size
    have c2 : w2.cell? ⟨g, 1, none⟩ = some (.string K) := ((bcell hb2).1 _ _ hg).trans C1.out
    have r0 := ((bcell hb2).1 w.heap.size 0 (by omega)).trans HH.out.1.1
    have r1 := ((bcell hb2).1 w.heap.size 1 (by omega)).trans HH.out.1.2
    have f0 := ((bcell hb2).2 w.heap.size 0 (by omega)).trans HH.out.2.1
    have f1 := ((bcell hb2).2 w.heap.size 1 (by omega)).trans HH.out.2.2
    have HB2 := hid_in (below_later HB.out hb2)
    have hq : w.heap.size < w2.heap.size := by omega
    have hq1 : ¬ w.heap.size = w2.heap.size := by omega
    have hq2 : ¬ w2.heap.size = w.heap.size := by omega
    clear c0 c1 hb2 HH HB C1
    rcases hx with ⟨rfl, hA, hv⟩ | ⟨rfl, rfl, hA⟩
    · have HA := hid_in (show AOk F from hA)
      have HV := hid_in (show av = AVal F from hv)
      clear hA hv
      go_wp2_with fail
      refine (l1Num_any K _ hK).mono ?_
      rintro e w3 ⟨⟨n, rfl, hn⟩, rfl⟩
      have hg2 := good_num HA.out hn
      rw [← HV.out] at hg2
      rcases hg2 with ⟨h1, h2, h3⟩ | ⟨h1, h2⟩
      · have H1 := hid_in h1; have H2 := hid_in h2; have H3 := hid_in h3
        clear h1 h2 h3 hn
        go_wp2_with fail
        refine (specOk av n _ _ H1.out).mono ?_
        rintro e w4 ⟨rfl, hb4⟩
        obtain ⟨⟨s0, s1⟩, ⟨u0, u1⟩, ⟨t0, t1⟩, hq4⟩ := after_ok hq r0 r1 f0 f1 hb4
        have HB4 := hid_in (below_later HB2.out (below_under hb4))
        clear hb4 r0 r1 f0 f1 c2
        go_wp2_with fail
        exact bodyPost_ret (v := .tuple #[.agg #[.int .i64 av, .int .i64 n], .bool true]) (by simp [results, Tryd.results21, go_sem, s0, s1]) rfl ⟨BlkPost.yes H2.out HV.out H3.out, (HB4.out.setCell (by simp) _).setCell (by simp) _⟩
      · have H1 := hid_in h1; have H2 := hid_in h2
        clear h1 h2 hn
        go_wp2_with fail
        refine (specOk av n _ _ H1.out).mono ?_
        rintro e w4 ⟨rfl, hb4⟩
        obtain ⟨⟨s0, s1⟩, ⟨u0, u1⟩, ⟨t0, t1⟩, hq4⟩ := after_ok hq r0 r1 f0 f1 hb4
        have HB4 := hid_in (below_later HB2.out (below_under hb4))
        clear hb4 r0 r1 f0 f1 c2
        go_wp2_with fail
        exact bodyPost_ret (v := .tuple #[.agg #[.int .i64 0, .int .i64 0], .bool false]) (by simp [results, Tryd.results21, go_sem, s0, s1]) rfl ⟨BlkPost.no H2.out, (HB4.out.setCell (by simp) _).setCell (by simp) _⟩
    · have HA := hid_in (show ¬ AOk F from hA)
      clear hA
      go_wp2_with fail
      refine (l1Num_any K _ hK).mono ?_
      rintro e w3 ⟨⟨n, rfl, hn⟩, rfl⟩
      clear hn
      go_wp2_with fail
      exact bodyPost_ret (v := .tuple #[.agg #[.int .i64 0, .int .i64 0], .bool false]) (by simp [results, Tryd.results21, go_sem, r0, r1, hq, hq1, hq2]) rfl ⟨BlkPost.no fun h => HA.out h.1, ((HB2.out.setCell (by simp) _).setCell (by simp) _).alloc (by simp; exact HB2.out.size) _⟩
  · have hl := pieces_len 47 s
    generalize pieces 47 s = P at hcut h2 hle hl
    have hG := hid_in (show ¬ Good (front 47 s) (back 47 s) from fun h => hN h.2.1)
    clear hN
    go_enter Tryd.func21, Tryd.ntmps21
    go_wp2_with fail
    refine (hcut _).mono ?_
    rintro e w1 ⟨v, rfl, ⟨g, cap, rfl, hcap, hg, hc⟩, hb⟩
    have r0 : w1.cell? ⟨w.heap.size, 0, none⟩ = some (.int .i64 0) := by rw [(bcell hb).1 _ _ (by simp)]; go_simp
    have r1 : w1.cell? ⟨w.heap.size, 1, none⟩ = some (.int .i64 0) := by rw [(bcell hb).1 _ _ (by simp)]; go_simp
    have f0 : w1.frozen? ⟨w.heap.size, 0, none⟩ = false := by rw [(bcell hb).2 _ _ (by simp)]; go_simp
    have f1 : w1.frozen? ⟨w.heap.size, 1, none⟩ = false := by rw [(bcell hb).2 _ _ (by simp)]; go_simp
    clear hcut hc
    have HB := hid_in (below_under hb)
    clear hb
    have h2' : ((P.length : Int) == 2) = false := by simp; omega
    go_wp2_with fail
    exact bodyPost_ret (v := .tuple #[.agg #[.int .i64 0, .int .i64 0], .bool false]) (by simp [results, Tryd.results21, go_sem, r0, r1]) rfl ⟨BlkPost.no hG.out, (HB.out.setCell (by simp) _).setCell (by simp) _⟩
set_option maxHeartbeats 2000000 in
set_option maxRecDepth 100000 in
theorem blockGet_any (s : ByteArray) (m : Int) (w : World) (hs : s.size ≤ 1048576) (hm : w.cell? ⟨0, 0, none⟩ = some (.int .i64 m)) :
    Calls Tryd.prog 16 #[.string s] w fun e w' => BlkPost (front 47 s) (back 47 s) e ∧ Below w.heap.size w w' := by
  have hml := cellLt hm
  have hcut : ∀ o, Calls Tryd.prog 53 #[.string s, .string ⟨#[47]⟩] (w.alloc o) fun e w' => ∃ ok, e = .returned (.tuple #[.string (front 47 s), .string (back 47 s), .bool ok]) ∧ ∃ n, w' = (w.alloc o).drewN n := by
    intro o
    refine (Tryd.strings_Cut s ⟨#[47]⟩ m (w.alloc o) (by omega) (((bcell (below_box w o)).1 _ _ hml).trans hm)).mono ?_
    rintro e w' ⟨rfl, hw⟩
    exact ⟨_, by rw [← cut_front, ← cut_back], hw⟩
  have hF := Nat.le_trans (front_size 47 s) hs
  have hK := Nat.le_trans (back_size 47 s) hs
  have HM := hid_in hm
  clear hm
  generalize front 47 s = F at hcut hF ⊢
  generalize back 47 s = K at hcut hK ⊢
  go_enter Tryd.func16, Tryd.ntmps16
  go_wp2_with fail
  refine (hcut _).mono ?_
  rintro e w1 ⟨ok0, rfl, n, hw1⟩
  clear hcut
  have hb : Below (w.alloc (.cells #[.int .i64 0, .int .i64 0] 30)).heap.size (w.alloc (.cells #[.int .i64 0, .int .i64 0] 30)) w1 := by rw [hw1]; first | exact below_drewN (Below.refl _ _) _ | exact below_drewN _ (Below.refl _ _)
  clear hw1
  have hz := hb.size
  simp only [World.size_alloc] at hz
  have r0 : w1.cell? ⟨w.heap.size, 0, none⟩ = some (.int .i64 0) := by rw [(bcell hb).1 _ _ (by simp)]; go_simp
  have r1 : w1.cell? ⟨w.heap.size, 1, none⟩ = some (.int .i64 0) := by rw [(bcell hb).1 _ _ (by simp)]; go_simp
  have f0 : w1.frozen? ⟨w.heap.size, 0, none⟩ = false := by rw [(bcell hb).2 _ _ (by simp)]; go_simp
  have f1 : w1.frozen? ⟨w.heap.size, 1, none⟩ = false := by rw [(bcell hb).2 _ _ (by simp)]; go_simp
  have HB := hid_in (below_under hb)
  have HH := hid_in (And.intro (And.intro r0 r1) (And.intro f0 f1))
  clear hb r0 r1 f0 f1
  go_wp2_with fail
  refine (addrGet_any F m _ hF (((bcell HB.out).1 _ _ hml).trans HM.out)).mono ?_
  rintro e w2 ⟨⟨av, ok, rfl, hx⟩, hb2⟩
  have hz2 := hb2.size
  have r0 := ((bcell hb2).1 w.heap.size 0 (by omega)).trans HH.out.1.1
  have r1 := ((bcell hb2).1 w.heap.size 1 (by omega)).trans HH.out.1.2
  have f0 := ((bcell hb2).2 w.heap.size 0 (by omega)).trans HH.out.2.1
  have f1 := ((bcell hb2).2 w.heap.size 1 (by omega)).trans HH.out.2.2
  have HB2 := hid_in (below_later HB.out hb2)
  have hq : w.heap.size < w2.heap.size := by omega
  have hq1 : ¬ w.heap.size = w2.heap.size := by omega
  have hq2 : ¬ w2.heap.size = w.heap.size := by omega
  clear hb2 HH HB
  rcases hx with ⟨rfl, hA, hv⟩ | ⟨rfl, rfl, hA⟩
  · have HA := hid_in (show AOk F from hA)
    have HV := hid_in (show av = AVal F from hv)
    clear hA hv
    go_wp2_with fail
    refine (numberGet_any K 32 _ (by omega) (by omega) hK).mono ?_
    rintro e w3 ⟨⟨n, ok, rfl, hn⟩, rfl⟩
    rcases hn with ⟨rfl, hp, hle, hn⟩ | ⟨rfl, rfl, hn⟩
    · have HN := hid_in hn
      have HP := hid_in (And.intro hp hle)
      clear hp hle hn
      cases ho : okB av n
      · have HO := hid_in ho
        clear ho
        go_wp2_with fail
        refine (blockOkI av n _ _ HO.out).mono ?_
        rintro e w4 ⟨rfl, hb4⟩
        obtain ⟨⟨s0, s1⟩, ⟨u0, u1⟩, ⟨t0, t1⟩, hq4⟩ := after_ok hq r0 r1 f0 f1 hb4
        have HB4 := hid_in (below_later HB2.out (below_under hb4))
        clear hb4 r0 r1 f0 f1
        go_wp2_with fail
        exact bodyPost_ret (v := .tuple #[.agg #[.int .i64 0, .int .i64 0], .bool false]) (by simp [results, Tryd.results16, go_sem, s0, s1]) rfl ⟨BlkPost.no (fun h => by have h4 := h.2.2.2; rw [← HV.out, ← HN.out, HO.out] at h4; cases h4), (HB4.out.setCell (by simp) _).setCell (by simp) _⟩
      · have HO := hid_in ho
        clear ho
        go_wp2_with fail
        refine (blockOkI av n _ _ HO.out).mono ?_
        rintro e w4 ⟨rfl, hb4⟩
        obtain ⟨⟨s0, s1⟩, ⟨u0, u1⟩, ⟨t0, t1⟩, hq4⟩ := after_ok hq r0 r1 f0 f1 hb4
        have HB4 := hid_in (below_later HB2.out (below_under hb4))
        clear hb4 r0 r1 f0 f1
        go_wp2_with fail
        exact bodyPost_ret (v := .tuple #[.agg #[.int .i64 av, .int .i64 n], .bool true]) (by simp [results, Tryd.results16, go_sem, s0, s1]) rfl ⟨BlkPost.yes ⟨HA.out, HP.out.1, HP.out.2, by rw [← HV.out, ← HN.out]; exact HO.out⟩ HV.out HN.out, (HB4.out.setCell (by simp) _).setCell (by simp) _⟩
    · have HG := hid_in (show ¬ Good F K from fun h => hn ⟨h.2.1, h.2.2.1⟩)
      clear hn
      go_wp2_with fail
      exact bodyPost_ret (v := .tuple #[.agg #[.int .i64 0, .int .i64 0], .bool false]) (by simp [results, Tryd.results16, go_sem, r0, r1, hq, hq1, hq2]) rfl ⟨BlkPost.no HG.out, ((HB2.out.setCell (by simp) _).setCell (by simp) _).alloc (by simp; exact HB2.out.size) _⟩
  · have HA := hid_in (show ¬ AOk F from hA)
    clear hA
    go_wp2_with fail
    exact bodyPost_ret (v := .tuple #[.agg #[.int .i64 0, .int .i64 0], .bool false]) (by simp [results, Tryd.results16, go_sem, r0, r1]) rfl ⟨BlkPost.no fun h => HA.out h.1, (HB2.out.setCell (by simp) _).setCell (by simp) _⟩
end Go.Proofs.YtlfeedbnjhhmiaaDoor
