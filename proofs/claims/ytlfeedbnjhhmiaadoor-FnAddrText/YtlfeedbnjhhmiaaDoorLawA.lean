/- What is proved: the walk of the law FnAddrText. The conditions stand at the theorem. -/
import Derived.Test.YtlfeedbnjhhmiaaDoorAdrM
import Derived.Test.YtlfeedbnjhhmiaaDoorDrwS
namespace Go.Proofs.YtlfeedbnjhhmiaaDoor
open Go.RowKit Go.LatT Go.BlockM Go.PlainAid Go.OpnT Go.RegE
set_option linter.unusedVariables false
set_option linter.unusedSimpArgs false
/-- What AddrGet says of a text. -/
def AddrSays (s : ByteArray) (v : Int) (ok : Bool) : Prop := (ok = true ∧ ((pieces 46 s).length = 4 ∧ ∀ i, i < 4 → Num8 (pc (pieces 46 s) i)) ∧ v = accP (pieces 46 s) 4) ∨ (ok = false ∧ v = 0 ∧ ¬ ((pieces 46 s).length = 4 ∧ ∀ i, i < 4 → Num8 (pc (pieces 46 s) i)))
theorem AddrSays.one {s : ByteArray} {v v' : Int} {ok ok' : Bool} (h : AddrSays s v ok) (h' : AddrSays s v' ok') : v = v' ∧ ok = ok' := by
  rcases h with ⟨rfl, h, rfl⟩ | ⟨rfl, rfl, h⟩ <;> rcases h' with ⟨rfl, h', rfl⟩ | ⟨rfl, rfl, h'⟩
  · exact ⟨rfl, rfl⟩
  · exact absurd h h'
  · exact absurd h' h
  · exact ⟨rfl, rfl⟩
theorem says_write {a v : Int} {ok : Bool} (h : AddrSays (tx (if inB a 0 4294967295 then addrT a else [])) v ok) : ok = inB a 0 4294967295 ∧ (ok = true → v = a) := by
  cases e : inB a 0 4294967295
  · rw [e] at h
    have hn : ¬ ((pieces 46 (tx [])).length = 4 ∧ ∀ i, i < 4 → Num8 (pc (pieces 46 (tx [])) i)) := by
      rw [pieces_none [] (by simp)]
      rintro ⟨h, _⟩
      simp at h
    rcases h with ⟨_, h, _⟩ | ⟨rfl, _, _⟩
    · exact absurd h hn
    · exact ⟨rfl, fun h => nomatch h⟩
  · rw [e] at h
    have hr : 0 ≤ a ∧ a ≤ 4294967295 := by simpa [inB] using e
    obtain ⟨h1, h2⟩ := addr_write hr.1 hr.2
    rcases h with ⟨rfl, _, rfl⟩ | ⟨_, _, h⟩
    · exact ⟨rfl, fun _ => h2⟩
    · exact absurd h1 h
theorem says_read {s : ByteArray} {v : Int} (h : AddrSays s v true) : inB v 0 4294967295 = true ∧ tx (addrT v) = s := by
  rcases h with ⟨_, h, rfl⟩ | ⟨h, _⟩
  · obtain ⟨h1, h2, h3⟩ := addr_read h
    exact ⟨by simp [inB]; omega, h1⟩
  · cases h
theorem tx_len (a : Int) : (tx (if inB a 0 4294967295 then addrT a else [])).size ≤ 1000 := by
  cases e : inB a 0 4294967295
  · exact Nat.zero_le _
  · have hr : 0 ≤ a ∧ a ≤ 4294967295 := by simpa [inB] using e
    exact addrT_len hr.1 hr.2
theorem addrGetN (s : ByteArray) (m : Int) (w : World) (hs : s.size ≤ 1048576) (hm : w.cell? ⟨0, 0, none⟩ = some (.int .i64 m)) :
    Calls Tryd.prog 10 #[.string s] w fun e w' => ∃ v ok, e = .returned (.tuple #[.int .i64 v, .bool ok]) ∧ AddrSays s v ok ∧ Below w.heap.size w w' :=
  (addrGet_any s m w hs hm).mono fun e w' ⟨⟨v, ok, he, h⟩, hb⟩ => ⟨v, ok, he, h, hb⟩
theorem addrGetSN (s : ByteArray) (w : World) (hs : s.size ≤ 1048576) :
    Calls Tryd.prog 13 #[.string s] w fun e w' => ∃ v ok, e = .returned (.tuple #[.int .i64 v, .bool ok]) ∧ AddrSays s v ok ∧ Below w.heap.size w w' :=
  (addrGetS_any s w hs).mono fun e w' ⟨⟨v, ok, he, h⟩, hb⟩ => ⟨v, ok, he, h, hb⟩
set_option maxHeartbeats 4000000 in
set_option maxRecDepth 100000 in
theorem walk_FnAddrText (a0 : Option Addr) (len0 cap0 : Nat) (z0 : List Int) (a1 : Option Addr) (len1 cap1 : Nat) (z1 : List Int) (w : World) (h0 : RowC w a0 len0 cap0 z0) (h1 : RowC w a1 len1 cap1 z1) (hp : Pow w) (hm : ∃ m, w.cell? ⟨0, 0, none⟩ = some (.int .i64 m)) :
    Calls Tryd.prog 3 #[.slice a0 len0 cap0, .slice a1 len1 cap1] w fun e w' => e = .returned (.bool true) ∧ Below w.heap.size w w' := by
  have hb0 : (len0 : Int) ≤ 9223372036854775807 := by
    rcases h0 with ⟨rfl, _⟩ | ⟨_, _, _, h1, h2, _⟩
    · omega
    · unfold maxLen at h2; omega
  have hb1 : (len1 : Int) ≤ 9223372036854775807 := by
    rcases h1 with ⟨rfl, _⟩ | ⟨_, _, _, h1, h2, _⟩
    · omega
    · unfold maxLen at h2; omega
  obtain ⟨m, hm⟩ := hm
  have hgl := cell_lt hm
  have R0 := hid_in h0; have R1 := hid_in h1; have HP := hid_in hp; have HM := hid_in hm
  clear h0 h1 hp hm
  by_cases hl0 : len0 ≤ 1048576
  · have hl0' : ¬ (1048576 : Int) < (len0 : Int) := by omega
    by_cases hl1 : len1 ≤ 1048576
    · have hl1' : ¬ (1048576 : Int) < (len1 : Int) := by omega
      go_enter Tryd.func3, Tryd.ntmps3
      go_wp2_with fail
      refine (drawAddrText a0 len0 cap0 z0 _ R0.out hl0).mono ?_
      rintro e w1 ⟨x, rfl, x0, x1, hb⟩
      have B1 := hid_in hb
      clear hb
      obtain ⟨T, hT⟩ : ∃ T, (if inB x 0 4294967295 then addrT x else []) = T := ⟨_, rfl⟩
      have HT := hid_in hT
      have HL : Hid ((tx T).size ≤ 1000) := by show _ ≤ _; rw [← hT]; exact tx_len x
      clear hT
      go_wp2_with fail
      refine (addrTextI x _ (HP.out.later B1.out) T HT.out).mono ?_
      rintro e w2 ⟨rfl, hb⟩
      have B2 := hid_in (below_later B1.out hb)
      clear hb B1
      go_wp2_with fail
      refine (addrGetN (tx T) m _ (by have := HL.out; omega) (((bcell B2.out).1 _ _ hgl).trans HM.out)).mono ?_
      rintro e w3 ⟨v, ok, rfl, hs, hb⟩
      have B3 := hid_in (below_later B2.out hb)
      clear hb B2
      rw [← HT.out] at hs
      obtain ⟨s1, s2⟩ := says_write hs
      have S2 := hid_in s2
      clear hs s2
      by_cases hx0 : 0 ≤ x
      · by_cases hx1 : x ≤ 4294967295
        · have e1 : inB x 0 4294967295 = true := by simp [inB]; omega
          rw [e1] at s1
          subst s1
          obtain rfl : v = x := S2.out rfl
          go_wp2_with fail
          refine (addrTextS v _ T HT.out).mono ?_
          rintro e w4 ⟨rfl, hb⟩
          have B4 := hid_in (below_later B3.out hb)
          clear hb B3
          go_wp2_with fail
          refine (drawAddrGet a1 len1 cap1 z1 _ (R1.out.later B4.out) hl1).mono ?_
          rintro e w5 ⟨u, rfl, hu, hb⟩
          have B5 := hid_in (below_later B4.out hb)
          clear hb B4
          go_wp2_with fail
          refine (addrGetN u m _ (by omega) (((bcell B5.out).1 _ _ hgl).trans HM.out)).mono ?_
          rintro e w6 ⟨y, fine, rfl, hy, hb⟩
          have B6 := hid_in (below_later B5.out hb); have HY := hid_in hy
          clear hb B5 hy
          go_wp2_with fail
          refine (addrGetSN u _ (by omega)).mono ?_
          rintro e w7 ⟨y', fine', rfl, hy', hb⟩
          have B7 := hid_in (below_later B6.out hb)
          obtain ⟨rfl, rfl⟩ := hy'.one HY.out
          clear hb B6 hy'
          cases fine'
          · go_wp2_with fail
            go_ret
            exact ⟨rfl, B7.out⟩
          · obtain ⟨r1, r2⟩ := says_read HY.out
            have r3 : u = ⟨(addrT y').toArray⟩ := r2.symm
            have r4 : Hid ((if inB y' 0 4294967295 then addrT y' else []) = addrT y') := by show _ = _; rw [r1]; rfl
            clear HY r2 r1
            subst r3
            go_wp2_with fail
            refine (addrTextI y' _ (HP.out.later B7.out) (addrT y') r4.out).mono ?_
            rintro e w8 ⟨rfl, hb⟩
            have B8 := hid_in (below_later B7.out hb)
            clear hb B7
            go_wp2_with fail
            go_ret
            exact ⟨rfl, B8.out⟩
        · have e1 : inB x 0 4294967295 = false := by simp [inB]; omega
          rw [e1] at s1
          subst s1
          clear S2
          go_wp2_with fail
          refine (addrTextS x _ T HT.out).mono ?_
          rintro e w4 ⟨rfl, hb⟩
          have B4 := hid_in (below_later B3.out hb)
          clear hb B3
          go_wp2_with fail
          refine (drawAddrGet a1 len1 cap1 z1 _ (R1.out.later B4.out) hl1).mono ?_
          rintro e w5 ⟨u, rfl, hu, hb⟩
          have B5 := hid_in (below_later B4.out hb)
          clear hb B4
          go_wp2_with fail
          refine (addrGetN u m _ (by omega) (((bcell B5.out).1 _ _ hgl).trans HM.out)).mono ?_
          rintro e w6 ⟨y, fine, rfl, hy, hb⟩
          have B6 := hid_in (below_later B5.out hb); have HY := hid_in hy
          clear hb B5 hy
          go_wp2_with fail
          refine (addrGetSN u _ (by omega)).mono ?_
          rintro e w7 ⟨y', fine', rfl, hy', hb⟩
          have B7 := hid_in (below_later B6.out hb)
          obtain ⟨rfl, rfl⟩ := hy'.one HY.out
          clear hb B6 hy'
          cases fine'
          · go_wp2_with fail
            go_ret
            exact ⟨rfl, B7.out⟩
          · obtain ⟨r1, r2⟩ := says_read HY.out
            have r3 : u = ⟨(addrT y').toArray⟩ := r2.symm
            have r4 : Hid ((if inB y' 0 4294967295 then addrT y' else []) = addrT y') := by show _ = _; rw [r1]; rfl
            clear HY r2 r1
            subst r3
            go_wp2_with fail
            refine (addrTextI y' _ (HP.out.later B7.out) (addrT y') r4.out).mono ?_
            rintro e w8 ⟨rfl, hb⟩
            have B8 := hid_in (below_later B7.out hb)
            clear hb B7
            go_wp2_with fail
            go_ret
            exact ⟨rfl, B8.out⟩
      · have e1 : inB x 0 4294967295 = false := by simp [inB]; omega
        rw [e1] at s1
        subst s1
        clear S2
        go_wp2_with fail
        refine (addrTextS x _ T HT.out).mono ?_
        rintro e w4 ⟨rfl, hb⟩
        have B4 := hid_in (below_later B3.out hb)
        clear hb B3
        go_wp2_with fail
        refine (drawAddrGet a1 len1 cap1 z1 _ (R1.out.later B4.out) hl1).mono ?_
        rintro e w5 ⟨u, rfl, hu, hb⟩
        have B5 := hid_in (below_later B4.out hb)
        clear hb B4
        go_wp2_with fail
        refine (addrGetN u m _ (by omega) (((bcell B5.out).1 _ _ hgl).trans HM.out)).mono ?_
        rintro e w6 ⟨y, fine, rfl, hy, hb⟩
        have B6 := hid_in (below_later B5.out hb); have HY := hid_in hy
        clear hb B5 hy
        go_wp2_with fail
        refine (addrGetSN u _ (by omega)).mono ?_
        rintro e w7 ⟨y', fine', rfl, hy', hb⟩
        have B7 := hid_in (below_later B6.out hb)
        obtain ⟨rfl, rfl⟩ := hy'.one HY.out
        clear hb B6 hy'
        cases fine'
        · go_wp2_with fail
          go_ret
          exact ⟨rfl, B7.out⟩
        · obtain ⟨r1, r2⟩ := says_read HY.out
          have r3 : u = ⟨(addrT y').toArray⟩ := r2.symm
          have r4 : Hid ((if inB y' 0 4294967295 then addrT y' else []) = addrT y') := by show _ = _; rw [r1]; rfl
          clear HY r2 r1
          subst r3
          go_wp2_with fail
          refine (addrTextI y' _ (HP.out.later B7.out) (addrT y') r4.out).mono ?_
          rintro e w8 ⟨rfl, hb⟩
          have B8 := hid_in (below_later B7.out hb)
          clear hb B7
          go_wp2_with fail
          go_ret
          exact ⟨rfl, B8.out⟩
    · have hl1' : (1048576 : Int) < (len1 : Int) := by omega
      go_enter Tryd.func3, Tryd.ntmps3
      go_wp2_with fail
      go_ret
      exact ⟨rfl, Below.refl _ _⟩
  · have hl0' : (1048576 : Int) < (len0 : Int) := by omega
    go_enter Tryd.func3, Tryd.ntmps3
    go_wp2_with fail
    go_ret
    exact ⟨rfl, Below.refl _ _⟩
end Go.Proofs.YtlfeedbnjhhmiaaDoor
