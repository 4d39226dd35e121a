/- What is proved: the contracts of DrwO, DrwP, BytD, one behind the other. The conditions stand at each theorem. -/
import Derived.Test.YtefmmopkikpnhaaGreatDoorGBas
import Derived.WalkKit
import Derived.OpenShut
import Derived.WalkSpells
import Derived.WalkLawsBesides
import Derived.BigQuiet
import Derived.Deep.RegionWith
import Derived.Test.YtefmmopkikpnhaaGreatDoorGHex
namespace Go.Proofs.YtefmmopkikpnhaaGreatDoor
open Go.RowKit Go.LatT Go.BlockM Go.RegE
set_option linter.unusedVariables false
set_option linter.unusedSimpArgs false
/-- A slice of bytes that came in. -/
def RowB (w : World) (a : Option Addr) (len cap : Nat) (z : List Int) : Prop :=
  (a = none ∧ len = 0 ∧ cap = 0) ∨ ∃ bb off, a = some ⟨bb, off, none⟩ ∧ len ≤ cap ∧ cap ≤ maxLen ∧ z.length = cap ∧ (∀ i, i < z.length → w.cell? ⟨bb, off + i, none⟩ = some (.int .u8 (z.getD i 0))) ∧ ∀ i, 0 ≤ z.getD i 0 ∧ z.getD i 0 ≤ 255
theorem RowB.later {w w' : World} {a : Option Addr} {len cap : Nat} {z : List Int} (h : RowB w a len cap z) (hb : Below w.heap.size w w') : RowB w' a len cap z := by
  rcases h with h | ⟨bb, off, e, h1, h2, h3, h4, h5⟩
  · exact .inl h
  · exact .inr ⟨bb, off, e, h1, h2, h3, fun i hi => by rw [(bcell hb).1 _ _ (cell_lt (h4 i hi))]; exact h4 i hi, h5⟩
theorem open_rdr {w : World} {t : TypeId} {bb off len cap n : Nat} {z : List Int} (h1 : len ≤ cap) (h3 : z.length = cap) (h4 : ∀ i, i < z.length → w.cell? ⟨bb, off + i, none⟩ = some (.int .u8 (z.getD i 0))) (h5 : ∀ i, 0 ≤ z.getD i 0 ∧ z.getD i 0 ≤ 255) (hn : n ≤ len) (hn' : n ≤ 2000) :
    Rdr (w.alloc (Obj.cells #[Value.slice (some ⟨bb, off, none⟩) n cap, Value.int IntKind.i64 0] t)) w.heap.size (.slice (some ⟨bb, off, none⟩) n cap) 0 := by
  refine ⟨by go_simp, by go_simp, by go_simp, ?_⟩
  by_cases h0 : n = 0
  · subst h0; exact .inl ⟨_, _, rfl⟩
  · have hlt := cell_lt (h4 0 (by omega))
    refine .inr ⟨bb, off, n, cap, fun i => z.getD i 0, rfl, by omega, by omega, hn', ⟨fun i hi => ?_, fun i => (h5 i).1, fun i => (h5 i).2⟩⟩
    rw [(bcell (below_box w _)).1 _ _ hlt]
    exact h4 i (by omega)
set_option maxHeartbeats 1000000 in
set_option maxRecDepth 100000 in
theorem l1Open_any (a : Option Addr) (len cap : Nat) (z : List Int) (w : World) (h : RowB w a len cap z) (hl : len ≤ 1048576) :
    Calls Tryz.prog 48 #[.slice a len cap] w fun e w' => ∃ sl, e = .returned (.pointer (some ⟨w.heap.size, 0, none⟩)) ∧ Rdr w' w.heap.size sl 0 ∧ Below w.heap.size w w' := by
  rcases h with ⟨rfl, rfl, rfl⟩ | ⟨bb, off, rfl, h1, h2, h3, h4, h5⟩
  · go_enter Tryz.func48, Tryz.ntmps48
    go_wp2
    go_ret
    exact ⟨.slice none 0 0, rfl, ⟨by go_simp, by go_simp, by go_simp, .inl ⟨_, _, rfl⟩⟩, below_box _ _⟩
  · unfold maxLen at h2
    have H4 := hid_in h4; have H5 := hid_in h5; clear h4 h5
    by_cases hlt : (2000 : Int) < (len : Int)
    · have hc : (2000 : Int) ≤ (cap : Int) := by omega
      go_enter Tryz.func48, Tryz.ntmps48
      go_wp2
      go_ret
      exact ⟨_, rfl, open_rdr h1 h3 H4.out H5.out (by omega) (by omega), below_box _ _⟩
    · go_enter Tryz.func48, Tryz.ntmps48
      go_wp2
      go_ret
      exact ⟨rfl, ⟨_, open_rdr h1 h3 H4.out H5.out (Nat.le_refl _) (by omega)⟩, below_box _ _⟩
/-- A slice of bytes that came in: empty, or a row of cells. -/
def RowC (w : World) (a : Option Addr) (len cap : Nat) (z : List Int) : Prop :=
  (len = 0 ∧ cap = 0) ∨ ∃ bb off, a = some ⟨bb, off, none⟩ ∧ len ≤ cap ∧ cap ≤ maxLen ∧ z.length = cap ∧ (∀ i, i < z.length → w.cell? ⟨bb, off + i, none⟩ = some (.int .u8 (z.getD i 0))) ∧ ∀ i, 0 ≤ z.getD i 0 ∧ z.getD i 0 ≤ 255
theorem RowC.later {w w' : World} {a : Option Addr} {len cap : Nat} {z : List Int} (h : RowC w a len cap z) (hb : Below w.heap.size w w') : RowC w' a len cap z := by
  rcases h with h | ⟨bb, off, e, h1, h2, h3, h4, h5⟩
  · exact .inl h
  · exact .inr ⟨bb, off, e, h1, h2, h3, fun i hi => by rw [(bcell hb).1 _ _ (cell_lt (h4 i hi))]; exact h4 i hi, h5⟩
/-- What the kit tells of such a slice. -/
theorem RowC.mk {w : World} {x : Addr} {len cap : Nat} {z : List Int} (h1 : len ≤ cap) (h2 : cap ≤ maxLen) (h3 : z.length = cap) (h4 : ∀ i, i < z.length → w.cell? (x.add i) = some (.int .u8 (z.getD i 0))) (h5 : ∀ n ∈ z, (Lit.int .u8 n).wf = true) : RowC w (some x) len cap z := by
  by_cases h0 : cap = 0
  · exact .inl ⟨by omega, h0⟩
  · obtain ⟨bb, off, spot⟩ := x
    have hc := h4 0 (by omega)
    have hspot : spot = none := by simpa [Addr.add] using World.cell?_spot hc
    subst hspot
    refine .inr ⟨bb, off, rfl, h1, h2, h3, fun i hi => ?_, fun i => by simpa using range_u8 h5 i⟩
    have := h4 i hi
    by_cases hi0 : i = 0
    · subst hi0; simpa [Addr.add] using this
    · simpa [Addr.add, hi0] using this
set_option maxHeartbeats 1000000 in
set_option maxRecDepth 100000 in
theorem l1OpenC (a : Option Addr) (len cap : Nat) (z : List Int) (w : World) (h : RowC w a len cap z) (hl : len ≤ 1048576) :
    Calls Tryz.prog 48 #[.slice a len cap] w fun e w' => ∃ sl, e = .returned (.pointer (some ⟨w.heap.size, 0, none⟩)) ∧ Rdr w' w.heap.size sl 0 ∧ Below w.heap.size w w' := by
  rcases h with ⟨rfl, rfl⟩ | h
  · go_enter Tryz.func48, Tryz.ntmps48
    go_wp2
    go_ret
    exact ⟨.slice a 0 0, rfl, ⟨by go_simp, by go_simp, by go_simp, .inl ⟨_, _, rfl⟩⟩, below_box _ _⟩
  · exact l1Open_any a len cap z w (.inr h) hl
theorem below_mv {w w1 w2 : World} {R : Nat} (hb : Below w.heap.size w w1) (hR : w.heap.size ≤ R) (m : Mv R w1 w2) : Below w.heap.size w w2 := hb.trans (m.below hb.size hR)
end Go.Proofs.YtefmmopkikpnhaaGreatDoor

namespace Go.Proofs.YtefmmopkikpnhaaGreatDoor
open Go.RowKit Go.LatT Go.BlockM Go.RegE
set_option linter.unusedVariables false
set_option linter.unusedSimpArgs false
theorem oneN (R : Nat) (sl : Value) (p : Int) (vs : List Int) (n : Nat) (arr : Array Value) (t : TypeId) (w : World) (harr : arr = (vs.map fun v => Value.int .i64 v).toArray) (hn : n = vs.length) (h : Rdr w R sl p) (hp : 0 ≤ p) (hp' : p ≤ 1099511627776) (hl : 1 ≤ vs.length) (hl' : vs.length ≤ 100) :
    Calls Tryz.prog 50 #[.pointer (some ⟨R, 0, none⟩), .slice (some ⟨w.heap.size, 0, none⟩) n n] (w.alloc (.cells arr t)) fun e w' => ∃ u : Int, e = .returned (.int .i64 u) ∧ u ∈ vs ∧ Rdr w' R sl (p + 1) ∧ Mv R w w' := by
  subst harr hn
  have hlt := h.lt
  exact (oneM R w.heap.size sl p vs _ (h.later (below_box _ _)) (by omega) hp hp' hl hl' (fun i hi => new_ints vs t w i hi)).mono
    fun _ _ ⟨u, he, hu, h1, h2⟩ => ⟨u, he, hu, h1, (Mv.of_below (below_box _ _)).trans h2⟩
end Go.Proofs.YtefmmopkikpnhaaGreatDoor

namespace Go.Proofs.YtefmmopkikpnhaaGreatDoor
open Go.RowKit Go.LatT Go.BlockM Go.PlainAid Go.OpnT Go.RegE
set_option linter.unusedVariables false
set_option linter.unusedSimpArgs false
theorem owns_mv {w w' : World} {R base size n : Nat} {e : TypeId} {v : Value} {xs : List Value} (h : w.ownsRow base e size v n xs) (m : Mv R w w') (hR : R < base) : w'.ownsRow base e size v n xs := by
  obtain ⟨h1, h2⟩ := h
  refine ⟨h1, ?_⟩
  rcases h2 with h2 | ⟨g, cap, cur, e1, e2, e3, e4, e5, e6, e7⟩
  · exact .inl h2
  · exact .inr ⟨g, cap, cur, e1, e2, by rw [m.block _ (Array.getElem?_eq_some_iff.1 e3).1 (by omega)]; exact e3, e4, e5, e6, e7⟩
theorem Mv.grown {R : Nat} {w w1 w2 : World} {row : Option Nat} (h : Mv R w w1) (hg : w1.grownBy w2 row) (hr : ∀ k, row = some k → w.heap.size ≤ k) : Mv R w w2 := by
  have hb : Below w.heap.size w1 w2 := grown_below hg h.size hr
  exact ⟨hb.os.trans h.os, hb.tape.trans h.tape, hb.output.trans h.output, Nat.le_trans h.size hb.size, fun k hk hne => (hb.block k hk).trans (h.block k hk hne)⟩
set_option maxHeartbeats 2000000 in
set_option maxRecDepth 100000 in
theorem l12Bytes_any (R : Nat) (sl : Value) (p : Int) (n : Nat) (w : World) (h : Rdr w R sl p) (hp : 0 ≤ p) (hp' : p ≤ 1000000) (hn : n ≤ 1000) :
    Calls Tryz.prog 49 #[.pointer (some ⟨R, 0, none⟩), .int .i64 (n : Int)] w fun e w' => ∃ l : List UInt8, e = .returned (.string ⟨l.toArray⟩) ∧ l.length = n ∧ (∃ q, p ≤ q ∧ q ≤ p + 3 * n ∧ Rdr w' R sl q) ∧ Mv R w w' := by
  have hlt := h.lt
  have H := hid_in h
  clear h
  obtain ⟨i0, hi, hzz⟩ := Option.map_eq_some_iff.1 infoByte
  simp only [Prod.mk.injEq] at hzz
  have HI := hid_in hi; have HZ := hid_in hzz
  clear hi hzz
  go_enter Tryz.func49, Tryz.ntmps49
  go_wp2_with fail
  go_loopw [5, 1] (fun o v wr => ∃ k : Nat, k ≤ n ∧ v = .int .i64 ((n - k : Nat) : Int) ∧ Hid (Mv R w wr ∧ (∃ q, p ≤ q ∧ q ≤ p + 3 * k ∧ Rdr wr R sl q) ∧ ∃ l : List UInt8, l.length = k ∧ wr.ownsRow w.heap.size 5 1 o k (u8s l))) (fun _ v _ => (intOf v).toNat)
  case atStart =>
    refine ⟨0, Nat.zero_le _, rfl, ?_⟩
    show _ ∧ _
    refine ⟨Mv.of_below (below_box _ _), ⟨p, by omega, by omega, H.out.later (below_box _ _)⟩, [], rfl, World.ownsRow_lit w #[] 0 (Nat.le_refl _) (Nat.zero_le _) rfl⟩
  case round =>
    obtain ⟨k, hk, rfl, HW⟩ := hrel
    obtain ⟨hM, ⟨q, hq1, hq2, hR⟩, l, hl, hO⟩ := HW.out
    have HM := hid_in hM; have HO := hid_in hO; have HR := hid_in hR; have HL := hid_in hl
    have hz := hM.size
    clear hM hO hR hl HW
    by_cases hk' : k < n
    · have hd : (0 : Int) < ((n - k : Nat) : Int) := by omega
      have h1c : ∀ (a : Int), ∀ u ∈ [Value.int .u8 a], u.oneCell' = true := by intro a u hu; rw [List.mem_singleton.1 hu]; rfl
      go_wp2_with fail
      refine (pickM R sl q 256 _ HR.out (by omega) (by omega) (by omega) (by omega)).mono ?_
      rintro e w1 ⟨u1, rfl, a1, b1, h1, m1⟩
      have H1 := hid_in h1; have M1 := hid_in m1; clear h1 m1
      go_wp2_with fail
      refine (pickM R sl _ 256 _ H1.out (by omega) (by omega) (by omega) (by omega)).mono ?_
      rintro e w2 ⟨u2, rfl, a2, b2, h2, m2⟩
      have H2 := hid_in h2; have M2 := hid_in (M1.out.trans m2); clear h2 m2 H1 M1
      go_wp2_with fail
      refine (oneN R sl _ [0, 255, u1, u2] 4 _ 3 w2 rfl rfl H2.out (by omega) (by omega) (by simp) (by simp)).mono ?_
      rintro e w3 ⟨u3, rfl, hu3, h3, m3⟩
      have H3 := hid_in h3; have M3 := hid_in (M2.out.trans m3); clear h3 m3 H2 M2
      have hu4 : 0 ≤ u3 ∧ u3 ≤ 255 := by
        simp only [List.mem_cons, List.not_mem_nil, or_false] at hu3
        omega
      obtain ⟨c0, c1⟩ := hu4
      have O3 := hid_in (owns_mv HO.out M3.out hlt)
      have s3 := M3.out.size
      have e1 : IntKind.u8.wrap u3 = u3 := by rw [IntKind.wrap_u8]; omega
      clear hu3
      go_wp2_with (at_builtin; refine wpList_append_own _ rfl (.tmp 11) (.tmp 20) 25 rfl w.heap.size 5 i0 (.int .u8 0) 1 1 Tryz.underlying25 HI.out HZ.out.1 HZ.out.2.1 HZ.out.2.2 rfl (by decide) _ k (u8s l) rfl (O3.out.alloc _) ⟨w3.heap.size, 0, none⟩ 1 1 [.int .u8 u3] rfl rfl (cells_new _ _ _) (h1c _) (by unfold maxLen; omega) (by omega) (by simp; omega) ?_; intro v' w4 hown4 hg4 hn4; have H4 := hid_in hown4; have G4 := hid_in hg4; clear hown4 hg4 hn4)
      have m4 : Mv R w w4 := ((HM.out.trans M3.out).trans (Mv.of_below (below_box _ _))).grown G4.out (fun g hg => (owns_own O3.out g hg).1)
      have r3 := H3.out.later (below_box w3 (.cells #[.int .u8 u3] 5))
      have hb4 : Below w.heap.size (w3.alloc (.cells #[.int .u8 u3] 5)) w4 := grown_below G4.out (by simp; omega) (fun g hg => (owns_own O3.out g hg).1)
      have x1 : ∀ o, w4.cell? ⟨R, o, none⟩ = (w3.alloc (.cells #[.int .u8 u3] 5)).cell? ⟨R, o, none⟩ := fun o => by unfold World.cell?; rw [hb4.block R hlt]
      have x2 : ∀ o, w4.frozen? ⟨R, o, none⟩ = (w3.alloc (.cells #[.int .u8 u3] 5)).frozen? ⟨R, o, none⟩ := fun o => by unfold World.frozen?; rw [hb4.block R hlt]
      have r4 : Rdr w4 R sl (q + 1 + 1 + 1) := ⟨by rw [x1]; exact r3.c0, by rw [x1]; exact r3.c1, by rw [x2]; exact r3.fz, H.out.src_of m4⟩
      refine ⟨⟨k + 1, by omega, by simp; omega, ?_⟩, by simp [intOf]; omega⟩
      show _ ∧ _
      refine ⟨m4, ⟨_, by omega, by omega, r4⟩, l ++ [UInt8.ofNat u3.toNat], by rw [List.length_append, HL.out]; rfl, ?_⟩
      rw [u8s_append]
      have e2 : u8s [UInt8.ofNat u3.toNat] = [.int .u8 u3] := by simp [u8s]; omega
      rw [e2]
      exact H4.out
    · have hd : ¬ (0 : Int) < ((n - k : Nat) : Int) := by omega
      have hcv := owns_text HO.out HL.out.symm
      have hkn : k = n := by omega
      have HK := hid_in hkn
      clear hkn
      go_wp2_with fail
      go_ret
      exact ⟨l, rfl, by rw [HL.out, HK.out], ⟨q, hq1, by omega, HR.out⟩, HM.out⟩
end Go.Proofs.YtefmmopkikpnhaaGreatDoor

