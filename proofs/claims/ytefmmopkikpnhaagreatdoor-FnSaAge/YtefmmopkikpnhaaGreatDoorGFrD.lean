/- What is proved: the contracts of FrmD, one behind the other. The conditions stand at each theorem. -/
import Derived.Test.YtefmmopkikpnhaaGreatDoorGFrC
import Derived.Test.YtefmmopkikpnhaaGreatDoorGShC
import Derived.Test.YtefmmopkikpnhaaGreatDoorGAeF
import Derived.Test.YtefmmopkikpnhaaGreatDoorGWin
namespace Go.Proofs.YtefmmopkikpnhaaGreatDoor
open Go.RowKit Go.LatT Go.BlockM Go.PlainAid Go.OpnT Go.ApdG Go.BytM Go.AesM Go.RowQ
set_option linter.unusedVariables false
set_option linter.unusedSimpArgs false
/-- A text filled. -/
def filT (s : ByteArray) : ByteArray := ⟨(fillL (bl s)).toArray⟩
/-- What the tag of a frame is of. -/
def ahT (key : ByteArray) (n m : Nat) (begin text : ByteArray) : ByteArray := ((⟨(be 4 n).toArray⟩ ++ ⟨(be 4 m).toArray⟩) ++ begin) ++ cpT key begin (filT text)
/-- A frame. -/
def frmT (key mac : ByteArray) (n m : Nat) (begin text : ByteArray) : ByteArray := ahT key n m begin text ++ tgT mac (ahT key n m begin text)
theorem filT_size (s : ByteArray) (h : s.size ≤ 51) : (filT s).size ≤ 64 ∧ (filT s).size % 16 = 0 ∧ 16 ≤ (filT s).size := by
  have : (filT s).size = (fillL (bl s)).length := by show (Array.size _) = _; simp
  rw [this]
  unfold fillL
  rw [List.length_append]
  have h2 : ∀ (l : List UInt8) k, (rep l k).length = l.length * k := by
    intro l k
    induction k with
    | zero => simp [rep]
    | succ k ih => rw [rep, List.length_append, ih, Nat.mul_succ, Nat.add_comm]
  rw [h2, bl_len]
  simp
  omega
theorem cpT_le (s t u : ByteArray) : (cpT s t u).size ≤ u.size := by
  unfold cpT
  split
  · rw [txt_size]; omega
  · exact Nat.zero_le _
theorem keysB_of {k m : ByteArray} (h : keysB k m = true) : k.size = 16 ∧ 1 ≤ m.size ∧ m.size ≤ 64 := by
  unfold keysB inB at h
  simp at h
  omega
theorem tgT_size (s t : ByteArray) : (tgT s t).size = 16 := by
  unfold tgT
  have := sumT_size (cat2 (kb s 92) (inT s t)) (64 + 32)
  simp [this]
/-- The sizes of what a frame is put together from. -/
structure FSz (key mac : ByteArray) (n m : Nat) (begin text : ByteArray) : Prop where
  a : (⟨(be 4 n).toArray⟩ : ByteArray).size = 4
  b : (⟨(be 4 m).toArray⟩ : ByteArray).size = 4
  c : (cpT key begin (filT text)).size ≤ 64
  d : (ahT key n m begin text).size ≤ 88
theorem fsz_of {key mac : ByteArray} {n m : Nat} {begin text : ByteArray} (hb : begin.size = 16) (ht : text.size ≤ 51) : FSz key mac n m begin text := by
  have h1 : (⟨(be 4 n).toArray⟩ : ByteArray).size = 4 := by show (be 4 n).toArray.size = _; rw [List.size_toArray, be_len]
  have h2 : (⟨(be 4 m).toArray⟩ : ByteArray).size = 4 := by show (be 4 m).toArray.size = _; rw [List.size_toArray, be_len]
  have h3 : (cpT key begin (filT text)).size ≤ 64 := Nat.le_trans (cpT_le _ _ _) (filT_size text ht).1
  refine ⟨h1, h2, h3, ?_⟩
  unfold ahT
  rw [ByteArray.size_append, ByteArray.size_append, ByteArray.size_append, h1, h2]
  omega
set_option maxHeartbeats 2000000 in
set_option maxRecDepth 100000 in
theorem frmI_ok (key mac : ByteArray) (n m : Nat) (begin text : ByteArray) (w : World) (hK : GK w) (hk : keysB key mac = true) (hn : 1 ≤ n ∧ n ≤ 999) (hm : 1 ≤ m ∧ m ≤ 1000000) (hb : begin.size = 16) (ht : text.size ≤ 51) :
    Calls Tryz.prog 17 #[.string key, .string mac, .int .i64 (n : Int), .int .i64 (m : Int), .string begin, .string text] w fun e w' => e = .returned (.string (frmT key mac n m begin text)) ∧ Below w.heap.size w w' := by
  have hh : hokB (n : Int) (m : Int) = true := by unfold hokB inB; simp; omega
  obtain ⟨k16, m1, m64⟩ := keysB_of hk
  have HK := hid_in hK; have KO := hid_in hk; have HO := hid_in hh
  have Z := fsz_of (key := key) (mac := mac) (n := n) (m := m) hb ht
  obtain ⟨za, zb, zc, zd⟩ := Z
  have FT := hid_in (show frmT key mac n m begin text = ahT key n m begin text ++ tgT mac (ahT key n m begin text) from rfl)
  have AT := hid_in (show ahT key n m begin text = ((⟨(be 4 n).toArray⟩ ++ ⟨(be 4 m).toArray⟩) ++ begin) ++ cpT key begin (filT text) from rfl)
  have FI := hid_in (fun W => fillI text W (by omega))
  have CI := hid_in (fun W => chpI key begin (filT text) W (by omega) (by omega) (by have := (filT_size text ht).1; omega))
  have TI := hid_in (fun W (k : GK W) => by have := tagI_any mac (ahT key n m begin text) W k (by omega) (by omega); rw [if_neg (by omega)] at this; exact this)
  have B1 := hid_in (fun W => bytesOf_any n 4 W (by omega) (by decide))
  have B2 := hid_in (fun W => bytesOf_any m 4 W (by omega) (by decide))
  have tz := tgT_size mac (ahT key n m begin text)
  have hb' : (begin.size : Int) = 16 := by omega
  have ht' : (text.size : Int) ≤ 51 := by omega
  have e1 : IntKind.u64.wrap (n : Int) = (n : Int) := by rw [IntKind.wrap_u64]; omega
  have e2 : IntKind.u64.wrap (m : Int) = (m : Int) := by rw [IntKind.wrap_u64]; omega
  clear hK hk hh
  rw [FT.out]
  generalize tgT mac (ahT key n m begin text) = TG at *
  rw [AT.out] at zd TI ⊢
  rw [show (⟨(fillL (bl text)).toArray⟩ : ByteArray) = filT text from rfl] at FI
  generalize cpT key begin (filT text) = CH at *
  generalize filT text = FL at *
  generalize (⟨(be 4 n).toArray⟩ : ByteArray) = X1 at *
  generalize (⟨(be 4 m).toArray⟩ : ByteArray) = X2 at *
  go_enter Tryz.func17, Tryz.ntmps17
  go_wp2_with fail
  refine (keysOk_any key mac _ true KO.out).mono ?_
  rintro e w1 ⟨rfl, hb1⟩
  go_wp2_with fail
  refine (headOk_any n m _ true HO.out).mono ?_
  rintro e w2 ⟨rfl, hb2⟩
  have D2 := hid_in (below_later hb1 hb2)
  clear hb1 hb2
  go_wp2_with fail
  refine (B1.out _).mono ?_
  rintro e w3 ⟨rfl, hb3⟩
  have D3 := hid_in (below_later D2.out hb3)
  clear hb3 D2
  go_wp2_with fail
  refine (B2.out _).mono ?_
  rintro e w4 ⟨rfl, hb4⟩
  have D4 := hid_in (below_later D3.out hb4)
  clear hb4 D3
  go_wp2_with fail
  refine (FI.out _).mono ?_
  rintro e w5 ⟨rfl, hb5⟩
  have D5 := hid_in (below_later D4.out hb5)
  clear hb5 D4
  go_wp2_with fail
  refine (CI.out _).mono ?_
  rintro e w6 ⟨rfl, hb6⟩
  have D6 := hid_in (below_later D5.out hb6)
  clear hb6 D5
  go_wp2_with fail
  refine (TI.out _ (HK.out.below D6.out HK.out.lt)).mono ?_
  rintro e w7 ⟨rfl, hb7⟩
  have D7 := hid_in (below_later D6.out hb7)
  clear hb7 D6
  go_wp2_with fail
  go_ret
  exact ⟨rfl, D7.out⟩
set_option maxHeartbeats 2000000 in
set_option maxRecDepth 100000 in
theorem l8Frame_any (key mac : ByteArray) (n m : Nat) (begin text : ByteArray) (w : World) (hk : keysB key mac = true) (hn : n ≤ 999) (hm : m ≤ 1000000) (hb : begin.size = 16) (ht : text.size ≤ 51) :
    Calls Tryz.prog 58 #[.string key, .string mac, .int .i64 (n : Int), .int .i64 (m : Int), .string begin, .string text] w fun e w' => e = .returned (.string (frmT key mac n m begin text)) ∧ Below w.heap.size w w' := by
  obtain ⟨k16, m1, m64⟩ := keysB_of hk
  have Z := fsz_of (key := key) (mac := mac) (n := n) (m := m) hb ht
  obtain ⟨za, zb, zc, zd⟩ := Z
  have FT := hid_in (show frmT key mac n m begin text = ahT key n m begin text ++ tgT mac (ahT key n m begin text) from rfl)
  have AT := hid_in (show ahT key n m begin text = ((⟨(be 4 n).toArray⟩ ++ ⟨(be 4 m).toArray⟩) ++ begin) ++ cpT key begin (filT text) from rfl)
  have FI := hid_in (fun W => fillS text W (by omega))
  have CI := hid_in (fun W => chainPutS key begin (filT text) W (by omega) (by omega) (by have := (filT_size text ht).1; omega))
  have TI := hid_in (fun W => by have := tagS_any mac (ahT key n m begin text) W (by omega) (by omega); rw [if_neg (by omega)] at this; exact this)
  have B1 := hid_in (fun W => l8Bytes_any n 4 W (by omega) (by decide))
  have B2 := hid_in (fun W => l8Bytes_any m 4 W (by omega) (by decide))
  have tz := tgT_size mac (ahT key n m begin text)
  clear hk
  rw [FT.out]
  generalize tgT mac (ahT key n m begin text) = TG at *
  rw [AT.out] at zd TI ⊢
  rw [show (⟨(fillL (bl text)).toArray⟩ : ByteArray) = filT text from rfl] at FI
  generalize cpT key begin (filT text) = CH at *
  generalize filT text = FL at *
  generalize (⟨(be 4 n).toArray⟩ : ByteArray) = X1 at *
  generalize (⟨(be 4 m).toArray⟩ : ByteArray) = X2 at *
  go_enter Tryz.func58, Tryz.ntmps58
  go_wp2_with fail
  refine (B1.out _).mono ?_
  rintro e w3 ⟨rfl, hb3⟩
  have D3 := hid_in hb3
  clear hb3
  go_wp2_with fail
  refine (B2.out _).mono ?_
  rintro e w4 ⟨rfl, hb4⟩
  have D4 := hid_in (below_later D3.out hb4)
  clear hb4 D3
  go_wp2_with fail
  refine (FI.out _).mono ?_
  rintro e w5 ⟨rfl, hb5⟩
  have D5 := hid_in (below_later D4.out hb5)
  clear hb5 D4
  go_wp2_with fail
  refine (CI.out _).mono ?_
  rintro e w6 ⟨rfl, hb6⟩
  have D6 := hid_in (below_later D5.out hb6)
  clear hb6 D5
  go_wp2_with fail
  refine (TI.out _).mono ?_
  rintro e w7 ⟨rfl, hb7⟩
  have D7 := hid_in (below_later D6.out hb7)
  clear hb7 D6
  go_wp2_with fail
  go_ret
  exact ⟨rfl, D7.out⟩
end Go.Proofs.YtefmmopkikpnhaaGreatDoor

