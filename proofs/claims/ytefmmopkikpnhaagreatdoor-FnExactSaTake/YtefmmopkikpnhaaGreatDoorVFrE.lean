/- What is proved: the contracts of TxtN, FrmE, one behind the other. The conditions stand at each theorem. -/
import Derived.Test.YtefmmopkikpnhaaGreatDoorVBas
import Derived.Test.YtefmmopkikpnhaaGreatDoorVFrD
import Derived.Test.YtefmmopkikpnhaaGreatDoorVFrB
namespace Go.Proofs.YtefmmopkikpnhaaGreatDoor
open Go.BytM
theorem loop_eq (s : ByteArray) : ∀ k i r, s.size - i = k → ByteArray.toList.loop s i r = r.reverse ++ (bl s).drop i
  | 0, i, r, h => by
    rw [ByteArray.toList.loop, if_neg (by omega), List.drop_of_length_le (by rw [bl_len]; omega), List.append_nil]
  | k + 1, i, r, h => by
    have hi : i < s.size := by omega
    rw [ByteArray.toList.loop, if_pos hi, loop_eq s k (i + 1) _ (by omega)]
    have hl : i < (bl s).length := by rw [bl_len]; exact hi
    rw [List.drop_eq_getElem_cons hl]
    have hg : s.get! i = (bl s)[i] := by
      cases s with
      | mk d =>
        have hd : i < d.size := hi
        simp [ByteArray.get!, bl, hd]
    rw [hg]
    simp
theorem toList_eq (s : ByteArray) : s.toList = bl s := by
  unfold ByteArray.toList
  rw [loop_eq s s.size 0 [] (by omega)]
  simp
theorem toList_ne {x y : ByteArray} (h : x ≠ y) : ¬ x.toList = y.toList ∧ (x.toList == y.toList) = false := by
  have : ¬ x.toList = y.toList := by rw [toList_eq, toList_eq]; exact fun e => h (bl_inj e)
  exact ⟨this, by simpa using this⟩
end Go.Proofs.YtefmmopkikpnhaaGreatDoor

namespace Go.Proofs.YtefmmopkikpnhaaGreatDoor
open Go.RowKit Go.LatT Go.BlockM Go.PlainAid Go.OpnT Go.ApdG Go.BytM Go.AesM Go.RowQ
set_option linter.unusedVariables false
set_option linter.unusedSimpArgs false
/-- A text that opens. -/
def fgB (key mac x : ByteArray) : Bool := fhB x && keysB key mac && decide (x.extract (x.size - 16) x.size = tgT mac (x.extract 0 (x.size - 16))) && unfB (cdT key (x.extract 8 24) (x.extract 24 (x.size - 16)))
/-- What it opens to. -/
def fgT (key mac x : ByteArray) : ByteArray := if fgB key mac x then unfT (cdT key (x.extract 8 24) (x.extract 24 (x.size - 16))) else ⟨#[]⟩
theorem unfT_no {s : ByteArray} (h : unfB s = false) : unfT s = ⟨#[]⟩ := by unfold unfT; rw [h]; rfl
theorem cdT_le (s t u : ByteArray) : (cdT s t u).size ≤ u.size := by
  unfold cdT
  split
  · rw [txt_size]; omega
  · exact Nat.zero_le _
theorem fszB_of {x : ByteArray} (h : fszB x = true) : 56 ≤ x.size ∧ x.size ≤ 140 := by
  unfold fszB at h
  simp at h
  omega
set_option maxHeartbeats 2000000 in
set_option maxRecDepth 100000 in
theorem frameGetS (key mac x : ByteArray) (w : World) (h1 : key.size ≤ 1048576) (h2 : mac.size ≤ 1048576) (hx : x.size ≤ 1048576) :
    Calls Tryz.prog 14 #[.string key, .string mac, .string x] w fun e w' => e = .returned (.tuple #[.string (fgT key mac x), .bool (fgB key mac x)]) ∧ Below w.heap.size w w' := by
  have FH := hid_in (fun W => frameHeadS x W hx)
  cases hf : fhB x
  · have E := hid_in (show fgB key mac x = false by unfold fgB; rw [hf]; rfl)
    have E2 := hid_in (show fgT key mac x = ⟨#[]⟩ by unfold fgT; rw [E.out]; rfl)
    rw [E.out, E2.out]
    rw [hf] at FH
    clear hf
    generalize fhN x 0 4 = N1 at *
    generalize fhN x 4 8 = N2 at *
    go_enter Tryz.func14, Tryz.ntmps14
    go_wp2_with fail
    refine (FH.out _).mono ?_
    rintro e w1 ⟨rfl, rfl⟩
    go_wp2_with fail
    go_ret2
    exact ⟨rfl, Below.refl _ _⟩
  · have hs : fszB x = true := by
      unfold fhB at hf
      simp at hf
      exact hf.1
    obtain ⟨x56, x140⟩ := fszB_of hs
    cases hk : keysB key mac
    · have E := hid_in (show fgB key mac x = false by unfold fgB; rw [hf, hk]; rfl)
      have E2 := hid_in (show fgT key mac x = ⟨#[]⟩ by unfold fgT; rw [E.out]; rfl)
      have KO := hid_in hk
      rw [E.out, E2.out]
      rw [hf] at FH
      clear hf hk hs
      generalize fhN x 0 4 = N1 at *
      generalize fhN x 4 8 = N2 at *
      go_enter Tryz.func14, Tryz.ntmps14
      go_wp2_with fail
      refine (FH.out _).mono ?_
      rintro e w1 ⟨rfl, rfl⟩
      go_wp2_with fail
      refine (l8Keys_any key mac _ false KO.out).mono ?_
      rintro e w2 ⟨rfl, rfl⟩
      go_wp2_with fail
      go_ret2
      exact ⟨rfl, Below.refl _ _⟩
    · obtain ⟨k16, m1, m64⟩ := keysB_of hk
      have KO := hid_in hk
      obtain ⟨n, hn⟩ : ∃ n, x.size - 16 = n := ⟨_, rfl⟩
      have en : (x.size : Int) - 16 = (n : Int) := by omega
      have TI := hid_in (fun W => by have := tagS_any mac (x.extract 0 n) W (by omega) (by rw [ByteArray.size_extract]; omega); rw [if_neg (by omega)] at this; exact this)
      have CI := hid_in (fun W => chainGetS key (x.extract 8 24) (x.extract 24 n) W (by omega) (by rw [ByteArray.size_extract]; omega) (by rw [ByteArray.size_extract]; omega))
      have UI := hid_in (fun W => unfillS (cdT key (x.extract 8 24) (x.extract 24 n)) W (by have := cdT_le key (x.extract 8 24) (x.extract 24 n); rw [ByteArray.size_extract] at this; omega) _ _ rfl rfl)
      have q1 : n ≤ x.size := by omega
      have q2 : 24 ≤ n := by omega
      have q3 : n ≤ 124 := by omega
      have hxs : (x.size : Int) ≤ 140 := by omega
      have hxs2 : (56 : Int) ≤ (x.size : Int) := by omega
      have EB := hid_in (show fgB key mac x = (decide (x.extract n x.size = tgT mac (x.extract 0 n)) && unfB (cdT key (x.extract 8 24) (x.extract 24 n))) by unfold fgB; rw [hf, hk, hn]; rfl)
      have ET := hid_in (show fgT key mac x = (if fgB key mac x then unfT (cdT key (x.extract 8 24) (x.extract 24 n)) else ⟨#[]⟩) by unfold fgT; rw [hn])
      rw [hf] at FH
      generalize cdT key (x.extract 8 24) (x.extract 24 n) = CD at *
      generalize fhN x 0 4 = N1 at *
      generalize fhN x 4 8 = N2 at *
      by_cases ht : x.extract n x.size = tgT mac (x.extract 0 n)
      · have E1 := hid_in (show fgB key mac x = unfB CD by rw [EB.out, ht]; simp)
        have E2 := hid_in (show fgT key mac x = unfT CD by
          rw [ET.out, E1.out]
          cases h : unfB CD
          · rw [unfT_no h]; rfl
          · rfl)
        rw [E1.out, E2.out]
        rw [← ht] at TI
        clear ht EB ET hf hk hs hn
        go_enter Tryz.func14, Tryz.ntmps14
        go_wp2_with fail
        refine (FH.out _).mono ?_
        rintro e w1 ⟨rfl, rfl⟩
        go_wp2_with fail
        refine (l8Keys_any key mac _ true KO.out).mono ?_
        rintro e w2 ⟨rfl, rfl⟩
        go_wp2_with fail
        refine wp_region_lat (Below.refl _ _) (by kernel_rfl) (by kernel_rfl) ?_
        intro hne hcl
        repeat (go_big_quiet_step (first | (go_at_call 23; exact lat_of (TI.out _))))
        refine wpQuiet_nil ?_
        intro w1 hb1
        obtain ⟨hc1, hf1⟩ := bcell hb1
        clear hne hcl
        have D2 := hid_in hb1
        clear hb1 hc1 hf1
        go_wp2_with fail
        generalize hw1 : w1 = w7 at *
        clear hw1
        refine wp_region_lat (Below.refl _ _) (by kernel_rfl) (by kernel_rfl) ?_
        intro hne hcl
        repeat (go_big_quiet_step (first | (go_at_call 43; exact lat_of (CI.out _)) | (go_at_call 42; exact lat_of (UI.out _))))
        refine wpQuiet_nil ?_
        intro w1 hb1
        obtain ⟨hc1, hf1⟩ := bcell hb1
        clear hne hcl
        have D4 := hid_in (below_later D2.out hb1)
        clear hb1 hc1 hf1 D2
        go_wp2_with fail
        go_ret2
        exact ⟨rfl, D4.out⟩
      · have E1 := hid_in (show fgB key mac x = false by rw [EB.out]; simp [ht])
        have E2 := hid_in (show fgT key mac x = ⟨#[]⟩ by rw [ET.out, E1.out]; rfl)
        rw [E1.out, E2.out]
        have hne := toList_ne ht
        have hne2 := toList_ne (fun e => ht e.symm)
        generalize tgT mac (x.extract 0 n) = TG at *
        clear ht EB ET hf hk hs hn
        go_enter Tryz.func14, Tryz.ntmps14
        go_wp2_with fail
        refine (FH.out _).mono ?_
        rintro e w1 ⟨rfl, rfl⟩
        go_wp2_with fail
        refine (l8Keys_any key mac _ true KO.out).mono ?_
        rintro e w2 ⟨rfl, rfl⟩
        go_wp2_with fail
        refine wp_region_lat (Below.refl _ _) (by kernel_rfl) (by kernel_rfl) ?_
        intro hne hcl
        repeat (go_big_quiet_step (first | (go_at_call 23; exact lat_of (TI.out _))))
        refine wpQuiet_nil ?_
        intro w1 hb1
        obtain ⟨hc1, hf1⟩ := bcell hb1
        clear hne hcl
        have D2 := hid_in hb1
        clear hb1 hc1 hf1
        go_wp2_with fail
        go_ret2
        exact ⟨rfl, D2.out⟩
set_option maxHeartbeats 2000000 in
set_option maxRecDepth 100000 in
theorem fits_any (mac : ByteArray) (a b : Int) (c d g t : ByteArray) (w : World) (hK : GK w) (h1 : mac.size ≤ 64) (h2 : g.size ≤ 1048576) (v : Bool) (hv : decide (t = tgT mac g) = v) :
    Calls Tryz.prog 91 #[.agg #[.int .i64 a, .int .i64 b, .string c, .string d, .string g, .string t], .string mac] w fun e w' => e = .returned (.bool v) ∧ Below w.heap.size w w' := by
  have TI := hid_in (fun W (k : GK W) => by have := tagI_any mac g W k (by omega) h2; rw [if_neg (by omega)] at this; exact this)
  have B1 := FBf.new w a b c d g t 61
  have K1 := hid_in (hK.below (below_box w (.cells #[.int .i64 a, .int .i64 b, .string c, .string d, .string g, .string t] 61)) hK.lt)
  have Z1 := hid_in (below_box w (.cells #[.int .i64 a, .int .i64 b, .string c, .string d, .string g, .string t] 61))
  obtain ⟨kl, k0, k1, k2, k3, k4, k5, kf⟩ := B1
  have KL := hid_in K1.out.lt
  clear hK k0 k1 k2 k3 kf
  generalize tgT mac g = R at *
  cases v
  · have hne : t ≠ R := by simpa using hv
    have ne1 := toList_ne hne
    have ne2 := toList_ne (fun e => hne e.symm)
    clear hv hne
    go_enter Tryz.func91, Tryz.ntmps91
    go_wp2_with fail
    refine wp_region_lat (Below.refl _ _) (by kernel_rfl) (by kernel_rfl) ?_
    intro hne hcl
    repeat (go_big_quiet_step (first | (go_at_call 56; exact lat_of (TI.out _ (K1.out.below (Lat.h _) KL.out)))))
    refine wpQuiet_nil ?_
    intro w1 hb1
    obtain ⟨hc1, hf1⟩ := bcell hb1
    clear hne hcl
    go_wp2_with fail
    go_ret
    exact ⟨rfl, Z1.out.trans (hb1.mono (by simp))⟩
  · have he : t = R := by simpa using hv
    subst he
    clear hv
    go_enter Tryz.func91, Tryz.ntmps91
    go_wp2_with fail
    refine wp_region_lat (Below.refl _ _) (by kernel_rfl) (by kernel_rfl) ?_
    intro hne hcl
    repeat (go_big_quiet_step (first | (go_at_call 56; exact lat_of (TI.out _ (K1.out.below (Lat.h _) KL.out)))))
    refine wpQuiet_nil ?_
    intro w1 hb1
    obtain ⟨hc1, hf1⟩ := bcell hb1
    clear hne hcl
    go_wp2_with fail
    go_ret
    exact ⟨rfl, Z1.out.trans (hb1.mono (by simp))⟩
/-- What is opened, and why it is not. -/
def opV (mac : ByteArray) (g t cd : ByteArray) : Value := if t = tgT mac g then .tuple #[.string (unfT cd), if unfB cd then .nilIface else eUnf] else .tuple #[.string ⟨#[]⟩, .iface 97 (.agg #[.string ⟨#[102, 114, 97, 109, 101, 32, 111, 102, 32, 116, 104, 101, 115, 101, 32, 107, 101, 121, 115]⟩])]
set_option maxHeartbeats 2000000 in
set_option maxRecDepth 100000 in
theorem opened_any (key mac : ByteArray) (a b : Int) (c d g t : ByteArray) (w : World) (hK : GK w) (h0 : key.size = 16) (h1 : mac.size ≤ 64) (h2 : g.size ≤ 1048576) (h3 : c.size ≤ 1048576) (h4 : d.size ≤ 1048576) :
    Calls Tryz.prog 47 #[.agg #[.int .i64 a, .int .i64 b, .string c, .string d, .string g, .string t], .string key, .string mac] w fun e w' => e = .returned (opV mac g t (cdT key c d)) ∧ Below w.heap.size w w' := by
  have B1 := hid_in (FBf.new w a b c d g t 61)
  have K1 := hid_in (hK.below (below_box w (.cells #[.int .i64 a, .int .i64 b, .string c, .string d, .string g, .string t] 61)) hK.lt)
  have Z1 := hid_in (below_box w (.cells #[.int .i64 a, .int .i64 b, .string c, .string d, .string g, .string t] 61))
  have CI := hid_in (fun W => chgI key c d W (by omega) h3 h4)
  have UI := hid_in (fun W => unfilledI (cdT key c d) W (by have := cdT_le key c d; omega))
  have FI := hid_in (fun W (k : GK W) v hv => fits_any mac a b c d g t W k h1 h2 v hv)
  clear hK
  by_cases ht : t = tgT mac g
  · have E := hid_in (show opV mac g t (cdT key c d) = .tuple #[.string (unfT (cdT key c d)), if unfB (cdT key c d) then .nilIface else eUnf] by unfold opV; rw [if_pos ht])
    have HD := hid_in (show decide (t = tgT mac g) = true by simpa using ht)
    rw [E.out]
    clear ht
    generalize (if unfB (cdT key c d) then Value.nilIface else eUnf) = V at *
    generalize unfT (cdT key c d) = U at *
    generalize cdT key c d = CD at *
    obtain ⟨kl, k0, k1, k2, k3, k4, k5, kf⟩ := B1.out
    go_enter Tryz.func47, Tryz.ntmps47
    go_wp2_with fail
    refine (FI.out _ K1.out true HD.out).mono ?_
    rintro e w1 ⟨rfl, hb1⟩
    have D1 := hid_in (Z1.out.trans (hb1.mono (by simp)))
    have B2 := B1.out.later hb1
    clear k0 k1 k2 k3 k4 k5 kf kl hb1
    obtain ⟨kl, k0, k1, k2, k3, k4, k5, kf⟩ := B2
    go_wp2_with fail
    refine (CI.out _).mono ?_
    rintro e w2 ⟨rfl, hb2⟩
    have D2 := hid_in (below_later D1.out hb2)
    clear hb2 D1
    go_wp2_with fail
    refine (UI.out _).mono ?_
    rintro e w3 ⟨rfl, hb3⟩
    have D3 := hid_in (below_later D2.out hb3)
    clear hb3 D2
    go_wp2_with fail
    go_ret2
    exact ⟨rfl, D3.out⟩
  · have E := hid_in (show opV mac g t (cdT key c d) = .tuple #[.string ⟨#[]⟩, .iface 97 (.agg #[.string ⟨#[102, 114, 97, 109, 101, 32, 111, 102, 32, 116, 104, 101, 115, 101, 32, 107, 101, 121, 115]⟩])] by unfold opV; rw [if_neg ht])
    have HD := hid_in (show decide (t = tgT mac g) = false by simpa using ht)
    rw [E.out]
    clear ht
    obtain ⟨kl, k0, k1, k2, k3, k4, k5, kf⟩ := B1.out
    go_enter Tryz.func47, Tryz.ntmps47
    go_wp2_with fail
    refine (FI.out _ K1.out false HD.out).mono ?_
    rintro e w1 ⟨rfl, hb1⟩
    have D1 := hid_in (Z1.out.trans (hb1.mono (by simp)))
    clear k0 k1 k2 k3 k4 k5 kf kl hb1
    go_wp2_with fail
    go_ret2
    exact ⟨rfl, D1.out⟩
theorem opV_yes {mac g t cd : ByteArray} (h : t = tgT mac g) : opV mac g t cd = .tuple #[.string (unfT cd), if unfB cd then .nilIface else eUnf] := by unfold opV; rw [if_pos h]
theorem opV_no {mac g t cd : ByteArray} (h : t ≠ tgT mac g) : opV mac g t cd = .tuple #[.string ⟨#[]⟩, .iface 97 (.agg #[.string ⟨#[102, 114, 97, 109, 101, 32, 111, 102, 32, 116, 104, 101, 115, 101, 32, 107, 101, 121, 115]⟩])] := by unfold opV; rw [if_neg h]
/-- What opening answers: a text, and nothing or why not. -/
theorem opV_cases (mac g t cd : ByteArray) : (∃ y : ByteArray, opV mac g t cd = .tuple #[.string ⟨#[]⟩, .iface 97 (.agg #[.string y])] ∧ (decide (t = tgT mac g) && unfB cd) = false) ∨ (opV mac g t cd = .tuple #[.string (unfT cd), .nilIface] ∧ (decide (t = tgT mac g) && unfB cd) = true) := by
  by_cases h : t = tgT mac g
  · cases hu : unfB cd
    · refine .inl ⟨⟨#[102, 105, 108, 108, 101, 100, 32, 116, 101, 120, 116]⟩, ?_, by simp⟩
      rw [opV_yes h, unfT_no hu, hu]
      rfl
    · refine .inr ⟨?_, by simp [h]⟩
      rw [opV_yes h, hu]
      rfl
  · exact .inl ⟨_, opV_no h, by simp [h]⟩
set_option maxHeartbeats 4000000 in
set_option maxRecDepth 100000 in
theorem frameGetI (key mac x : ByteArray) (w : World) (hK : GK w) (hE : ErrT w) (h1 : key.size ≤ 1048576) (h2 : mac.size ≤ 1048576) (hx : x.size ≤ 1048576) :
    Calls Tryz.prog 15 #[.string key, .string mac, .string x] w fun e w' => e = .returned (.tuple #[.string (fgT key mac x), .bool (fgB key mac x)]) ∧ Below w.heap.size w w' := by
  have HE := hid_in hE
  have HK := hid_in hK
  clear hE hK
  cases hf : fszB x
  · have E := hid_in (show fgB key mac x = false by unfold fgB fhB; rw [hf]; rfl)
    have E2 := hid_in (show fgT key mac x = ⟨#[]⟩ by unfold fgT; rw [E.out]; rfl)
    have HF := hid_in hf
    clear hf
    rw [E.out, E2.out]
    go_enter Tryz.func15, Tryz.ntmps15
    go_wp2_with fail
    refine (frameOf_no x w hx HF.out).mono ?_
    rintro e w1 ⟨y, rfl, hb1⟩
    have E1 := hid_in ((HE.out.later hb1).later (below_box w1 (.cells #[.int .i64 0, .int .i64 0, .string ⟨#[]⟩, .string ⟨#[]⟩, .string ⟨#[]⟩, .string ⟨#[]⟩] 61)))
    have Z1 := hid_in (below_later hb1 (below_box w1 (.cells #[.int .i64 0, .int .i64 0, .string ⟨#[]⟩, .string ⟨#[]⟩, .string ⟨#[]⟩, .string ⟨#[]⟩] 61)))
    clear hb1
    go_wp2_with fail
    refine (couldRead_not y _ E1.out).mono ?_
    rintro e w2 ⟨rfl, hb2⟩
    go_wp2_with fail
    go_ret2
    exact ⟨rfl, below_later Z1.out hb2⟩
  · obtain ⟨x56, x140⟩ := fszB_of hf
    obtain ⟨c, hc⟩ : ∃ c, hokB (numX x 0 4) (numX x 4 8) = c := ⟨_, rfl⟩
    have HC := hid_in hc
    have HF := hid_in hf
    have FV : Hid (frV x = .agg #[.int .i64 (numX x 0 4), .int .i64 (numX x 4 8), .string (x.extract 8 24), .string (x.extract 24 (x.size - 16)), .string (x.extract 0 (x.size - 16)), .string (x.extract (x.size - 16) x.size)]) := hid_in rfl
    have EB := hid_in (show fgB key mac x = (c && keysB key mac && decide (x.extract (x.size - 16) x.size = tgT mac (x.extract 0 (x.size - 16))) && unfB (cdT key (x.extract 8 24) (x.extract 24 (x.size - 16)))) by unfold fgB fhB; rw [hf, hc]; rfl)
    have ET := hid_in (show fgT key mac x = (if fgB key mac x then unfT (cdT key (x.extract 8 24) (x.extract 24 (x.size - 16))) else ⟨#[]⟩) from rfl)
    have s2 : (x.extract 8 24).size ≤ 1048576 := by rw [ByteArray.size_extract]; omega
    have s3 : (x.extract 24 (x.size - 16)).size ≤ 1048576 := by rw [ByteArray.size_extract]; omega
    have s4 : (x.extract 0 (x.size - 16)).size ≤ 1048576 := by rw [ByteArray.size_extract]; omega
    clear hc hf
    have F0 := frameOf_ok x w HF.out
    unfold FrP at F0
    rw [FV.out, HC.out] at F0
    have F := hid_in F0
    clear F0 FV HC
    generalize fgB key mac x = RB' at *
    generalize fgT key mac x = RT at *
    generalize numX x 0 4 = f at *
    generalize numX x 4 8 = t at *
    generalize x.extract 8 24 = a2 at *
    generalize x.extract 24 (x.size - 16) = a3 at *
    generalize x.extract 0 (x.size - 16) = a4 at *
    generalize x.extract (x.size - 16) x.size = a5 at *
    cases c
    · have E1' := hid_in (show RB' = false by rw [EB.out]; rfl)
      have E2' := hid_in (show RT = ⟨#[]⟩ by rw [ET.out, E1'.out]; rfl)
      rw [E1'.out, E2'.out]
      go_enter Tryz.func15, Tryz.ntmps15
      go_wp2_with fail
      refine F.out.mono ?_
      rintro e w1 ⟨v, rfl, hv, hb1⟩
      have hv' : ∃ y : ByteArray, v = .iface 97 (.agg #[.string y]) := hv
      obtain ⟨y, rfl⟩ := hv'
      have E1 := hid_in ((HE.out.later hb1).later (below_box w1 (.cells #[.int .i64 f, .int .i64 t, .string a2, .string a3, .string a4, .string a5] 61)))
      have Z1 := hid_in (below_later hb1 (below_box w1 (.cells #[.int .i64 f, .int .i64 t, .string a2, .string a3, .string a4, .string a5] 61)))
      clear hb1 hv
      go_wp2_with fail
      refine (couldRead_not y _ E1.out).mono ?_
      rintro e w2 ⟨rfl, hb2⟩
      go_wp2_with fail
      go_ret2
      exact ⟨rfl, below_later Z1.out hb2⟩
    · cases hk : keysB key mac
      · have E1' := hid_in (show RB' = false by rw [EB.out, hk]; rfl)
        have E2' := hid_in (show RT = ⟨#[]⟩ by rw [ET.out, E1'.out]; rfl)
        have KO := hid_in hk
        clear hk
        rw [E1'.out, E2'.out]
        go_enter Tryz.func15, Tryz.ntmps15
        go_wp2_with fail
        refine F.out.mono ?_
        rintro e w1 ⟨v, rfl, hv, hb1⟩
        have hv' : v = .nilIface := hv
        subst hv'
        have Z1 := hid_in (below_later hb1 (below_box w1 (.cells #[.int .i64 f, .int .i64 t, .string a2, .string a3, .string a4, .string a5] 61)))
        clear hb1 hv
        go_wp2_with fail
        refine (couldRead_nil _).mono ?_
        rintro e w2 ⟨rfl, hb2⟩
        have Z2 := hid_in (below_later Z1.out hb2)
        clear hb2
        go_wp2_with fail
        refine (keysOk_any key mac _ false KO.out).mono ?_
        rintro e w3 ⟨rfl, hb3⟩
        go_wp2_with fail
        go_ret2
        exact ⟨rfl, below_later Z2.out hb3⟩
      · obtain ⟨k16, m1, m64⟩ := keysB_of hk
        have KO := hid_in hk
        have OI := hid_in (fun W (k : GK W) => opened_any key mac f t a2 a3 a4 a5 W k k16 m64 s4 s2 s3)
        rcases opV_cases mac a4 a5 (cdT key a2 a3) with ⟨y, hy, hbb⟩ | ⟨hy, hbb⟩
        · have E1' := hid_in (show RB' = false by rw [EB.out, hk, Bool.true_and, Bool.true_and]; exact hbb)
          have E2' := hid_in (show RT = ⟨#[]⟩ by rw [ET.out, E1'.out]; rfl)
          rw [hy] at OI
          clear hk hy hbb
          rw [E1'.out, E2'.out]
          go_enter Tryz.func15, Tryz.ntmps15
          go_wp2_with fail
          refine F.out.mono ?_
          rintro e w1 ⟨v, rfl, hv, hb1⟩
          have hv' : v = .nilIface := hv
          subst hv'
          have Z1 := hid_in (below_later hb1 (below_box w1 (.cells #[.int .i64 f, .int .i64 t, .string a2, .string a3, .string a4, .string a5] 61)))
          have B1 := hid_in (FBf.new w1 f t a2 a3 a4 a5 61)
          clear hb1 hv
          go_wp2_with fail
          refine (couldRead_nil _).mono ?_
          rintro e w2 ⟨rfl, hb2⟩
          have Z2 := hid_in (below_later Z1.out hb2)
          have B2 := hid_in (B1.out.later hb2)
          clear hb2 B1 Z1
          go_wp2_with fail
          refine (keysOk_any key mac _ true KO.out).mono ?_
          rintro e w3 ⟨rfl, hb3⟩
          have Z3 := hid_in (below_later Z2.out hb3)
          obtain ⟨kl, k0, k1, k2, k3, k4, k5, kf⟩ := B2.out.later hb3
          clear hb3 B2 Z2
          go_wp2_with fail
          refine (OI.out _ (HK.out.below Z3.out HK.out.lt)).mono ?_
          rintro e w4 ⟨rfl, hb4⟩
          have Z4 := hid_in (below_later Z3.out hb4)
          clear hb4 Z3 k0 k1 k2 k3 k4 k5 kf kl
          go_wp2_with fail
          refine (couldRead_not y _ (HE.out.later Z4.out)).mono ?_
          rintro e w5 ⟨rfl, hb5⟩
          go_wp2_with fail
          go_ret2
          exact ⟨rfl, below_later Z4.out hb5⟩
        · have E1' := hid_in (show RB' = true by rw [EB.out, hk, Bool.true_and, Bool.true_and]; exact hbb)
          have E2' := hid_in (show RT = unfT (cdT key a2 a3) by rw [ET.out, E1'.out]; rfl)
          rw [hy] at OI
          clear hk hy hbb
          rw [E1'.out, E2'.out]
          generalize unfT (cdT key a2 a3) = U at *
          go_enter Tryz.func15, Tryz.ntmps15
          go_wp2_with fail
          refine F.out.mono ?_
          rintro e w1 ⟨v, rfl, hv, hb1⟩
          have hv' : v = .nilIface := hv
          subst hv'
          have Z1 := hid_in (below_later hb1 (below_box w1 (.cells #[.int .i64 f, .int .i64 t, .string a2, .string a3, .string a4, .string a5] 61)))
          have B1 := hid_in (FBf.new w1 f t a2 a3 a4 a5 61)
          clear hb1 hv
          go_wp2_with fail
          refine (couldRead_nil _).mono ?_
          rintro e w2 ⟨rfl, hb2⟩
          have Z2 := hid_in (below_later Z1.out hb2)
          have B2 := hid_in (B1.out.later hb2)
          clear hb2 B1 Z1
          go_wp2_with fail
          refine (keysOk_any key mac _ true KO.out).mono ?_
          rintro e w3 ⟨rfl, hb3⟩
          have Z3 := hid_in (below_later Z2.out hb3)
          obtain ⟨kl, k0, k1, k2, k3, k4, k5, kf⟩ := B2.out.later hb3
          clear hb3 B2 Z2
          go_wp2_with fail
          refine (OI.out _ (HK.out.below Z3.out HK.out.lt)).mono ?_
          rintro e w4 ⟨rfl, hb4⟩
          have Z4 := hid_in (below_later Z3.out hb4)
          clear hb4 Z3 k0 k1 k2 k3 k4 k5 kf kl
          go_wp2_with fail
          refine (couldRead_nil _).mono ?_
          rintro e w5 ⟨rfl, hb5⟩
          go_wp2_with fail
          go_ret2
          exact ⟨rfl, below_later Z4.out hb5⟩
end Go.Proofs.YtefmmopkikpnhaaGreatDoor

