/- The two numbers of a frame, in the program and in the specification, as contracts, and the walk of the exact law. The conditions stand at each theorem. -/
import Derived.Test.YtgolcjlogokbiaaDoorFrmB
namespace Go.Proofs.YtgolcjlogokbiaaDoor
open Go.RowKit Go.LatT Go.BlockM Go.PlainAid Go.OpnT Go.RegE Go.ApdG Go.BytM
set_option linter.unusedVariables false
set_option linter.unusedSimpArgs false
/-- What taking no frame apart answers. -/
def FrN (w : World) (e : Ending) (w' : World) : Prop := ∃ y : ByteArray, e = .returned (.tuple #[.agg #[.int .i64 0, .int .i64 0, .string ⟨#[]⟩, .string ⟨#[]⟩, .string ⟨#[]⟩, .string ⟨#[]⟩], .iface 84 (.agg #[.string y])]) ∧ Below w.heap.size w w'
set_option maxHeartbeats 2000000 in
set_option maxRecDepth 100000 in
theorem frameOf_no (x : ByteArray) (w : World) (hs : x.size ≤ 1048576) (hx : fszB x = false) :
    Calls Tryd.prog 40 #[.string x] w fun e w' => FrN w e w' := by
  by_cases h1 : 56 ≤ x.size
  · by_cases h2 : x.size ≤ 140
    · have h3 : ¬ ((x.size : Int) - 40) % 16 = 0 := by simp [fszB] at hx; omega
      have h3' : (((x.size : Int) - 40) % 16 == 0) = false := by simpa using h3
      have h3'' : (((x.size : Int) - 40) % 16 != 0) = true := by simpa using h3
      clear hx h3
      go_enter Tryd.func40, Tryd.ntmps40
      go_wp2_with fail
      exact bodyPost_ret (v := .tuple #[.agg #[.int .i64 0, .int .i64 0, .string ⟨#[]⟩, .string ⟨#[]⟩, .string ⟨#[]⟩, .string ⟨#[]⟩], .iface 84 (.agg #[.string ⟨#[102, 114, 97, 109, 101]⟩])]) (by simp [results, Tryd.results40, go_sem]) rfl ⟨_, rfl, by go_grown⟩
    · clear hx
      go_enter Tryd.func40, Tryd.ntmps40
      go_wp2_with fail
      exact bodyPost_ret (v := .tuple #[.agg #[.int .i64 0, .int .i64 0, .string ⟨#[]⟩, .string ⟨#[]⟩, .string ⟨#[]⟩, .string ⟨#[]⟩], .iface 84 (.agg #[.string ⟨#[102, 114, 97, 109, 101]⟩])]) (by simp [results, Tryd.results40, go_sem]) rfl ⟨_, rfl, by go_grown⟩
  · clear hx
    go_enter Tryd.func40, Tryd.ntmps40
    go_wp2_with fail
    exact bodyPost_ret (v := .tuple #[.agg #[.int .i64 0, .int .i64 0, .string ⟨#[]⟩, .string ⟨#[]⟩, .string ⟨#[]⟩, .string ⟨#[]⟩], .iface 84 (.agg #[.string ⟨#[102, 114, 97, 109, 101]⟩])]) (by simp [results, Tryd.results40, go_sem]) rfl ⟨_, rfl, by go_grown⟩
/-- A text that begins as a frame. -/
def fhB (x : ByteArray) : Bool := fszB x && hokB (numX x 0 4) (numX x 4 8)
/-- Its numbers. -/
def fhN (x : ByteArray) (i j : Nat) : Int := if fhB x then numX x i j else 0
set_option maxHeartbeats 2000000 in
set_option maxRecDepth 100000 in
theorem frameHeadI (x : ByteArray) (w : World) (hx : x.size ≤ 1048576) (hE : ErrT w) :
    Calls Tryd.prog 19 #[.string x] w fun e w' => e = .returned (.tuple #[.int .i64 (fhN x 0 4), .int .i64 (fhN x 4 8), .bool (fhB x)]) ∧ Below w.heap.size w w' := by
  have HE := hid_in hE
  clear hE
  cases hf : fszB x
  · have N : Hid (fhB x = false ∧ fhN x 0 4 = 0 ∧ fhN x 4 8 = 0) := by
      have : fhB x = false := by rw [fhB, hf]; rfl
      exact ⟨this, by rw [fhN, this]; rfl, by rw [fhN, this]; rfl⟩
    have HF := hid_in hf
    clear hf
    go_enter Tryd.func19, Tryd.ntmps19
    go_wp2_with fail
    refine (frameOf_no x w hx HF.out).mono ?_
    rintro e w1 ⟨y, rfl, hb1⟩
    have E1 := hid_in ((HE.out.later hb1).later (below_box w1 (.cells #[.int .i64 0, .int .i64 0, .string ⟨#[]⟩, .string ⟨#[]⟩, .string ⟨#[]⟩, .string ⟨#[]⟩] 61)))
    have Z1 := hid_in (below_later hb1 (below_box w1 (.cells #[.int .i64 0, .int .i64 0, .string ⟨#[]⟩, .string ⟨#[]⟩, .string ⟨#[]⟩, .string ⟨#[]⟩] 61)))
    clear hb1
    go_wp2_with fail
    refine (couldRead_not y _ E1.out).mono ?_
    rintro e w2 ⟨rfl, hb2⟩
    go_wp2_with fail
    go_ret3
    exact ⟨by rw [N.out.1, N.out.2.1, N.out.2.2]; rfl, below_later Z1.out hb2⟩
  · obtain ⟨c, hc⟩ : ∃ c, hokB (numX x 0 4) (numX x 4 8) = c := ⟨_, rfl⟩
    have HC := hid_in hc
    have HF := hid_in hf
    have FV : Hid (frV x = .agg #[.int .i64 (numX x 0 4), .int .i64 (numX x 4 8), .string (x.extract 8 24), .string (x.extract 24 (x.size - 16)), .string (x.extract 0 (x.size - 16)), .string (x.extract (x.size - 16) x.size)]) := hid_in rfl
    have N : Hid (fhB x = c ∧ fhN x 0 4 = (if c then numX x 0 4 else 0) ∧ fhN x 4 8 = (if c then numX x 4 8 else 0)) := by
      have : fhB x = c := by rw [fhB, hf, hc]; rfl
      exact ⟨this, by rw [fhN, this], by rw [fhN, this]⟩
    clear hc hf
    have F0 := frameOf_ok x w HF.out
    unfold FrP at F0
    rw [FV.out, HC.out] at F0
    have F := hid_in F0
    clear F0
    generalize numX x 0 4 = f at *
    generalize numX x 4 8 = t at *
    generalize x.extract 8 24 = a2 at *
    generalize x.extract 24 (x.size - 16) = a3 at *
    generalize x.extract 0 (x.size - 16) = a4 at *
    generalize x.extract (x.size - 16) x.size = a5 at *
    cases c
    · go_enter Tryd.func19, Tryd.ntmps19
      go_wp2_with fail
      refine F.out.mono ?_
      rintro e w1 ⟨v, rfl, hv, hb1⟩
      have hv' : ∃ y : ByteArray, v = .iface 84 (.agg #[.string y]) := hv
      obtain ⟨y, rfl⟩ := hv'
      have E1 := hid_in ((HE.out.later hb1).later (below_box w1 (.cells #[.int .i64 f, .int .i64 t, .string a2, .string a3, .string a4, .string a5] 61)))
      have Z1 := hid_in (below_later hb1 (below_box w1 (.cells #[.int .i64 f, .int .i64 t, .string a2, .string a3, .string a4, .string a5] 61)))
      clear hb1 hv
      go_wp2_with fail
      refine (couldRead_not y _ E1.out).mono ?_
      rintro e w2 ⟨rfl, hb2⟩
      go_wp2_with fail
      go_ret3
      exact ⟨by rw [N.out.1, N.out.2.1, N.out.2.2]; rfl, below_later Z1.out hb2⟩
    · go_enter Tryd.func19, Tryd.ntmps19
      go_wp2_with fail
      refine F.out.mono ?_
      rintro e w1 ⟨v, rfl, hv, hb1⟩
      have hv' : v = .nilIface := hv
      subst hv'
      have Z1 := hid_in (below_later hb1 (below_box w1 (.cells #[.int .i64 f, .int .i64 t, .string a2, .string a3, .string a4, .string a5] 61)))
      have B1 := hid_in (FBf.new w1 f t a2 a3 a4 a5 61)
      clear hb1 hv
      go_wp2_with fail
      refine (couldRead_nil _).mono ?_
      rintro e w2 ⟨rfl, hb2⟩
      obtain ⟨_, k0, k1, k2, k3, k4, k5, kf⟩ := B1.out.later hb2
      have Z2 := hid_in (below_later Z1.out hb2)
      clear hb2
      go_wp2_with fail
      go_region
      go_wp2_with fail
      go_ret3
      exact ⟨by rw [N.out.1, N.out.2.1, N.out.2.2]; rfl, Z2.out.drew⟩
set_option maxHeartbeats 2000000 in
set_option maxRecDepth 100000 in
theorem frameHeadS (x : ByteArray) (w : World) (hx : x.size ≤ 1048576) :
    Calls Tryd.prog 18 #[.string x] w fun e w' => e = .returned (.tuple #[.int .i64 (fhN x 0 4), .int .i64 (fhN x 4 8), .bool (fhB x)]) ∧ w' = w := by
  have no : fhB x = false → Hid (fhB x = false ∧ fhN x 0 4 = 0 ∧ fhN x 4 8 = 0) := fun this => ⟨this, by rw [fhN, this]; rfl, by rw [fhN, this]; rfl⟩
  obtain ⟨c, hc⟩ : ∃ c, inB (x.size : Int) 56 140 = c := ⟨_, rfl⟩
  have HC := hid_in hc
  cases c
  · have hf : fszB x = false := by simp [inB] at hc; simp [fszB]; omega
    have N := no (by rw [fhB, hf]; rfl)
    clear hc hf no
    go_enter Tryd.func18, Tryd.ntmps18
    go_wp2_with fail
    refine (l1In_any _ _ _ _ _ HC.out).mono ?_
    rintro e w1 ⟨rfl, rfl⟩
    go_wp2_with fail
    go_ret3
    exact ⟨by rw [N.out.1, N.out.2.1, N.out.2.2]; rfl, rfl⟩
  · have hr : 56 ≤ x.size ∧ x.size ≤ 140 := by simp [inB] at hc; omega
    by_cases h3 : x.size % 16 = 8
    · have hf : fszB x = true := by simp [fszB]; omega
      have q1 : (x.size : Int) % 16 = 8 := by omega
      have q4 : (4 : Int) ≤ x.size := by omega
      have q8 : (8 : Int) ≤ x.size := by omega
      obtain ⟨x0, hx0⟩ : ∃ y, x.extract 0 4 = y := ⟨_, rfl⟩
      obtain ⟨x1, hx1⟩ : ∃ y, x.extract 4 8 = y := ⟨_, rfl⟩
      have N1 : Hid (∀ w, Calls Tryd.prog 38 #[.string x0] w fun e w' => e = .returned (.int .i64 (numX x 0 4)) ∧ w' = w) := fun w => by rw [← hx0]; exact l8Num_any (x.extract 0 4) w (by rw [ByteArray.size_extract]; omega)
      have N2 : Hid (∀ w, Calls Tryd.prog 38 #[.string x1] w fun e w' => e = .returned (.int .i64 (numX x 4 8)) ∧ w' = w) := fun w => by rw [← hx1]; exact l8Num_any (x.extract 4 8) w (by rw [ByteArray.size_extract]; omega)
      obtain ⟨a, ha⟩ : ∃ a, inB (numX x 0 4) 1 999 = a := ⟨_, rfl⟩
      obtain ⟨b, hb⟩ : ∃ b, inB (numX x 4 8) 1 1000000 = b := ⟨_, rfl⟩
      have EH : fhB x = (a && b) := by rw [fhB, hf, hokB, ha, hb]; rfl
      have F1 : fhN x 0 4 = if (a && b) then numX x 0 4 else 0 := by rw [fhN, EH]
      have F2 : fhN x 4 8 = if (a && b) then numX x 4 8 else 0 := by rw [fhN, EH]
      have N := hid_in (And.intro EH (And.intro F1 F2))
      have HA := hid_in ha; have HB := hid_in hb
      clear hc hf no EH F1 F2 ha hb h3
      generalize numX x 0 4 = f at *
      generalize numX x 4 8 = t at *
      cases a
      · go_enter Tryd.func18, Tryd.ntmps18
        go_wp2_with fail
        refine (l1In_any _ _ _ _ _ HC.out).mono ?_
        rintro e w1 ⟨rfl, rfl⟩
        go_wp2_with fail
        refine (N1.out _).mono ?_
        rintro e w1 ⟨rfl, rfl⟩
        go_wp2_with fail
        refine (N2.out _).mono ?_
        rintro e w1 ⟨rfl, rfl⟩
        go_wp2_with fail
        refine (l1In_any _ _ _ _ _ HA.out).mono ?_
        rintro e w1 ⟨rfl, rfl⟩
        go_wp2_with fail
        go_ret3
        exact ⟨by rw [N.out.1, N.out.2.1, N.out.2.2]; rfl, rfl⟩
      · cases b
        all_goals
          go_enter Tryd.func18, Tryd.ntmps18
          go_wp2_with fail
          refine (l1In_any _ _ _ _ _ HC.out).mono ?_
          rintro e w1 ⟨rfl, rfl⟩
          go_wp2_with fail
          refine (N1.out _).mono ?_
          rintro e w1 ⟨rfl, rfl⟩
          go_wp2_with fail
          refine (N2.out _).mono ?_
          rintro e w1 ⟨rfl, rfl⟩
          go_wp2_with fail
          refine (l1In_any _ _ _ _ _ HA.out).mono ?_
          rintro e w1 ⟨rfl, rfl⟩
          go_wp2_with fail
          refine (l1In_any _ _ _ _ _ HB.out).mono ?_
          rintro e w1 ⟨rfl, rfl⟩
          go_wp2_with fail
          go_ret3
          exact ⟨by rw [N.out.1, N.out.2.1, N.out.2.2]; rfl, rfl⟩
    · have hf : fszB x = false := by simp [fszB]; omega
      have N := no (by rw [fhB, hf]; rfl)
      have q1 : ((x.size : Int) % 16 == 8) = false := by simp; omega
      have q2 : ((x.size : Int) % 16 != 8) = true := by simp; omega
      clear hc hf no h3
      go_enter Tryd.func18, Tryd.ntmps18
      go_wp2_with fail
      refine (l1In_any _ _ _ _ _ HC.out).mono ?_
      rintro e w1 ⟨rfl, rfl⟩
      go_wp2_with fail
      go_ret3
      exact ⟨by rw [N.out.1, N.out.2.1, N.out.2.2]; rfl, rfl⟩
set_option maxHeartbeats 2000000 in
set_option maxRecDepth 100000 in
theorem walk_FnExactFrameHead (x : ByteArray) (w : World) (hz : x.size ≤ maxLen) (hE : ErrT w) :
    Calls Tryd.prog 7 #[.string x] w fun e w' => e = .returned (.bool true) ∧ Below w.heap.size w w' := by
  have hz' : (x.size : Int) ≤ 9223372036854775807 := by unfold maxLen at hz; omega
  clear hz
  by_cases hs : x.size ≤ 1048576
  · have HS := hid_in (fun w => frameHeadS x w hs)
    have HI := hid_in (fun w hE => frameHeadI x w hs hE)
    have HE := hid_in hE
    clear hE
    generalize fhN x 0 4 = f at *
    generalize fhN x 4 8 = t at *
    generalize fhB x = b at *
    go_enter Tryd.func7, Tryd.ntmps7
    go_wp2_with fail
    refine (HS.out _).mono ?_
    rintro e w1 ⟨rfl, rfl⟩
    go_wp2_with fail
    refine (HI.out _ HE.out).mono ?_
    rintro e w2 ⟨rfl, hb2⟩
    cases b
    all_goals
      go_wp2_with fail
      go_ret
      exact ⟨rfl, hb2⟩
  · have hs' : (1048576 : Int) < x.size := by omega
    go_enter Tryd.func7, Tryd.ntmps7
    go_wp2_with fail
    go_ret
    exact ⟨rfl, Below.refl _ _⟩
end Go.Proofs.YtgolcjlogokbiaaDoor
