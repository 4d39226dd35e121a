/- The law of packets and their bytes. The conditions stand at each theorem. -/
import Derived.Test.YtgolcjlogokbiaaDoorPkdB
import Derived.Test.YtgolcjlogokbiaaDoorPkdM
import Derived.Test.YtgolcjlogokbiaaDoorPkgD
namespace Go.Proofs.YtgolcjlogokbiaaDoor
open Go.RowKit Go.LatT Go.BlockM Go.PlainAid Go.OpnT Go.RegE Go.ApdG Go.BytM
set_option linter.unusedVariables false
set_option linter.unusedSimpArgs false
/-- What drawing a packet to put answers. -/
def DppP (w : World) (e : Ending) (w' : World) : Prop := ∃ (f t o : Int) (s : ByteArray), e = .returned (.agg #[.int .i64 f, .int .i64 t, .int .i64 o, .string s]) ∧ s.size ≤ 41 ∧ Below w.heap.size w w'
set_option maxHeartbeats 1000000 in
set_option maxRecDepth 100000 in
theorem drawPacketPut (a : Option Addr) (len cap : Nat) (z : List Int) (w : World) (h : RowC w a len cap z) (hl : len ≤ 1048576) :
    Calls Tryd.prog 20 #[.slice a len cap] w fun e w' => DppP w e w' := by
  have HR := hid_in (h.later (below_box w (.cells #[.int .i64 0, .int .i64 0, .int .i64 0, .string ⟨#[]⟩] 30)))
  have B0 := hid_in (PBf.new w 0 0 0 ⟨#[]⟩ 30)
  have Z0 := hid_in (below_box w (.cells #[.int .i64 0, .int .i64 0, .int .i64 0, .string ⟨#[]⟩] 30))
  clear h
  go_enter Tryd.func20, Tryd.ntmps20
  go_wp2_with fail
  generalize (w.alloc (.cells #[.int .i64 0, .int .i64 0, .int .i64 0, .string ⟨#[]⟩] 30)) = W0 at *
  refine (l1OpenC a len cap z _ HR.out hl).mono ?_
  rintro e w1 ⟨sl, rfl, h1, hb1⟩
  have H1 := hid_in h1; have HB := hid_in hb1
  have hlt1 := B0.out.lt
  clear h1 hb1
  go_wp2_with fail
  refine (l12AnyPacket_any _ sl 0 _ H1.out (by omega) (by omega)).mono ?_
  rintro e w2 ⟨f, t, o, s, rfl, hs, m2⟩
  have hb2 : Below W0.heap.size W0 w2 := below_mv HB.out (Nat.le_refl _) m2
  have Z2 := hid_in (below_later Z0.out hb2)
  obtain ⟨b9, i0, i1, i2, i3, if_⟩ := B0.out.later hb2
  clear m2 hb2
  go_wp2_with fail
  refine bodyPost_ret (v := .agg #[.int .i64 f, .int .i64 t, .int .i64 o, .string s]) (by simp [results, Tryd.results20, go_sem, i0, i1, i2, i3, b9]) rfl ⟨f, t, o, s, rfl, hs, ?_⟩
  exact (((Z2.out.setCell (Nat.le_refl _) _).setCell (Nat.le_refl _) _).setCell (Nat.le_refl _) _).setCell (Nat.le_refl _) _
set_option maxHeartbeats 1000000 in
set_option maxRecDepth 100000 in
theorem drawPacketGet (a : Option Addr) (len cap : Nat) (z : List Int) (w : World) (h : RowC w a len cap z) (hl : len ≤ 1048576) :
    Calls Tryd.prog 25 #[.slice a len cap] w fun e w' => ∃ s : ByteArray, e = .returned (.string s) ∧ s.size ≤ 2000 ∧ Below w.heap.size w w' := by
  have HR := hid_in h
  clear h
  go_enter Tryd.func25, Tryd.ntmps25
  go_wp2_with fail
  refine (l1OpenC a len cap z _ HR.out hl).mono ?_
  rintro e w1 ⟨sl, rfl, h1, hb1⟩
  have H1 := hid_in h1; have HB := hid_in hb1
  clear h1 hb1
  go_wp2_with fail
  refine (l12Packet_any _ sl 0 _ H1.out (by omega) (by omega)).mono ?_
  rintro e w2 ⟨f, t, o, s, rfl, hf, ht, ho, hs, ⟨q, q1, q2, h2⟩, m2⟩
  have H2 := hid_in h2; have M2 := hid_in m2; clear h2 m2 H1
  obtain ⟨F, rfl⟩ := Int.eq_ofNat_of_zero_le hf.1
  obtain ⟨T, rfl⟩ := Int.eq_ofNat_of_zero_le ht.1
  obtain ⟨P, rfl⟩ := Int.eq_ofNat_of_zero_le ho.1
  have hzz : (putL F T P s).length ≤ 51 := by unfold putL; simp only [List.length_append, be_len, bl_len]; omega
  obtain ⟨y, hy, hyz⟩ : ∃ y : ByteArray, y = ⟨(putL F T P s).toArray⟩ ∧ y.size ≤ 51 := ⟨_, rfl, hzz⟩
  have LP := fun w => l8Put_any F T P s w (by omega) (by omega) (by omega) hs
  rw [← hy] at LP
  have HL := hid_in LP
  clear LP hy hzz
  go_wp2_with fail
  refine (HL.out _).mono ?_
  rintro e w3 ⟨rfl, hb3⟩
  have H3 := hid_in (H2.out.later hb3); have M3 := hid_in (M2.out.trans (Mv.of_below hb3)); clear hb3 H2 M2
  go_wp2_with fail
  refine (l12Cut_any _ sl q y _ H3.out (by omega) (by omega) (by omega)).mono ?_
  rintro e w4 ⟨u, rfl, hu, m4⟩
  have M4 := hid_in (M3.out.trans m4); clear m4
  go_wp2_with fail
  go_ret
  exact ⟨u, rfl, hu, below_mv HB.out (Nat.le_refl _) M4.out⟩
/-- The second half: what is read is written. -/
theorem read_facts (y : ByteArray) : ∃ f t o s, pgV y = .agg #[.int .i64 f, .int .i64 t, .int .i64 o, .string s] ∧ (goodB y = true → (⟨(pputL f t o s).toArray⟩ : ByteArray) = y) := by
  cases h : goodB y
  · exact ⟨0, 0, 0, ⟨#[]⟩, by rw [pgV, h]; rfl, fun h' => by cases h'⟩
  · obtain ⟨h1, h2⟩ := read_put y h
    exact ⟨_, _, _, _, by rw [pgV, h]; rfl, fun _ => by rw [pputL, h1]; exact h2⟩
/-- The first half: what is written is read. -/
theorem put_facts (f t o : Int) (s v : ByteArray) (hv : (⟨(pputL f t o s).toArray⟩ : ByteArray) = v) (b : Bool) (hb : pokB f t o s = b) :
    goodB v = b ∧ v.size ≤ 51 ∧ (b = true → pgV v = .agg #[.int .i64 f, .int .i64 t, .int .i64 o, .string s] ∧ v.size = 11 + s.size) := by
  cases b
  · have : v = ⟨#[]⟩ := by rw [← hv, pputL, hb]; rfl
    subst this
    exact ⟨good_nil, by decide, fun h => by cases h⟩
  · have hx : v = ⟨(putL f t o s).toArray⟩ := by rw [← hv, pputL, hb]; rfl
    obtain ⟨h1, h2, h3, h4, h5, h6⟩ := put_read f t o s v hx hb
    have := (pok_out hb).2.2.2
    refine ⟨h1, by omega, fun _ => ⟨?_, h6⟩⟩
    rw [pgV, h1, h2, h3, h4, h5]; rfl
set_option maxHeartbeats 4000000 in
set_option maxRecDepth 100000 in
theorem walk_FnPacketText (a : Option Addr) (len cap : Nat) (z : List Int) (a' : Option Addr) (len' cap' : Nat) (z' : List Int) (w : World) (h : RowC w a len cap z) (h' : RowC w a' len' cap' z') (hE : ErrT w) :
    Calls Tryd.prog 8 #[.slice a len cap, .slice a' len' cap'] w fun e w' => e = .returned (.bool true) ∧ Below w.heap.size w w' := by
  have hm : (len : Int) ≤ 9223372036854775807 := by
    rcases h with ⟨rfl, _⟩ | ⟨_, _, _, h1, h2, _⟩
    · omega
    · unfold maxLen at h2; omega
  have hm' : (len' : Int) ≤ 9223372036854775807 := by
    rcases h' with ⟨rfl, _⟩ | ⟨_, _, _, h1, h2, _⟩
    · omega
    · unfold maxLen at h2; omega
  have HR := hid_in h
  have HR' := hid_in h'
  have HE := hid_in hE
  clear h h' hE
  by_cases hl : len ≤ 1048576
  · by_cases hl' : len' ≤ 1048576
    · have HL' := hid_in hl'
      go_enter Tryd.func8, Tryd.ntmps8
      go_wp2_with fail
      refine (drawPacketPut a len cap z _ HR.out hl).mono ?_
      rintro e w1 ⟨f, t, o, s, rfl, hs, hb1⟩
      have P1 := hid_in (PBf.new w1 f t o s 30)
      have Z1 := hid_in (below_later hb1 (below_box w1 (.cells #[.int .i64 f, .int .i64 t, .int .i64 o, .string s] 30)))
      clear hb1
      obtain ⟨v, hv⟩ : ∃ v, (⟨(pputL f t o s).toArray⟩ : ByteArray) = v := ⟨_, rfl⟩
      obtain ⟨b, hb⟩ : ∃ b, pokB f t o s = b := ⟨_, rfl⟩
      obtain ⟨hg, hvz, hgo⟩ := put_facts f t o s v hv b hb
      have PS := hid_in (fun w => packetPutS f t o s w v hv)
      have PI := hid_in (fun w => packetPutI f t o s w v hv)
      have OS := hid_in (fun w => packetOkS f t o s w b hb)
      have OI := hid_in (fun w => packetOkI f t o s w b hb)
      have GI := fun w hE => packetGetI v w (by omega) hE
      rw [hg] at GI
      obtain ⟨f', t', o', s', hf'⟩ := pgV_form v
      have EQ : b = true → (f' = f ∧ t' = t ∧ o' = o ∧ s' = s) := by
        intro h
        have := (hgo h).1
        rw [hf'] at this
        simpa using this
      have SZ : b = true → (v.size : Int) = 11 + s.size := fun h => by have := (hgo h).2; omega
      rw [hf'] at GI
      have HGI := hid_in GI
      clear GI hf' hgo hg hb hv
      go_wp2_with fail
      generalize hW1 : (w1.alloc (.cells #[.int .i64 f, .int .i64 t, .int .i64 o, .string s] 30)) = W1 at *
      clear hW1
      generalize w1.heap.size = gp at *
      refine (PI.out _).mono ?_
      rintro e w2 ⟨rfl, hb2⟩
      replace P1 := hid_in (P1.out.later hb2); replace Z1 := hid_in (below_later Z1.out hb2)
      clear hb2
      go_wp2_with fail
      refine (HGI.out _ (HE.out.later Z1.out)).mono ?_
      rintro e w3 ⟨rfl, hb3⟩
      replace P1 := hid_in ((P1.out.later hb3).later (below_box w3 (.cells #[.int .i64 f', .int .i64 t', .int .i64 o', .string s'] 30))); replace Z1 := hid_in (below_later (below_later Z1.out hb3) (below_box w3 (.cells #[.int .i64 f', .int .i64 t', .int .i64 o', .string s'] 30)))
      have X3 := hid_in (PBf.new w3 f' t' o' s' 30)
      clear hb3
      obtain ⟨l0, k0, k1, k2, k3, kf⟩ := P1.out
      obtain ⟨l1, j0, j1, j2, j3, jf⟩ := X3.out
      cases b
      · clear EQ SZ
        go_wp2_with fail
        generalize hW3 : (w3.alloc (.cells #[.int .i64 f', .int .i64 t', .int .i64 o', .string s'] 30)) = W3 at *
        clear hW3
        generalize w3.heap.size = gx at *
        refine wp_region_lat (Below.refl _ _) (by kernel_rfl) (by kernel_rfl) ?_
        intro hne hcl
        repeat (go_big_quiet_step (first | (go_at_call 22; exact lat_of (PS.out _)) | (go_at_call 23; exact lat_of (OI.out _)) | (go_at_call 24; exact lat_of (OS.out _))))
        refine wpQuiet_nil ?_
        intro w1 hb1
        obtain ⟨hc1, hf1⟩ := bcell hb1
        clear hne hcl
        go_wp2_with fail
        have Z4 := hid_in (below_later Z1.out hb1)
        clear hb1 hc1 hf1 l0 k0 k1 k2 k3 kf l1 j0 j1 j2 j3 jf P1 X3 Z1
        refine (drawPacketGet a' len' cap' z' _ (HR'.out.later Z4.out) HL'.out).mono ?_
        rintro e w5 ⟨y, rfl, hy, hb5⟩
        have Z5 := hid_in (below_later Z4.out hb5)
        clear hb5
        obtain ⟨f2, t2, o2, s2, hf2, hput⟩ := read_facts y
        have G2 := fun w hE => packetGetI y w (by omega) hE
        have S2 := fun w => packetGetS y w (by omega)
        rw [hf2] at G2 S2
        have HG2 := hid_in G2; have HS2 := hid_in S2
        generalize goodB y = c at *
        clear G2 S2 hf2
        go_wp2_with fail
        refine (HG2.out _ (HE.out.later Z5.out)).mono ?_
        rintro e w6 ⟨rfl, hb6⟩
        have Y6 := hid_in (PBf.new w6 f2 t2 o2 s2 30)
        have Z6 := hid_in (below_later (below_later Z5.out hb6) (below_box w6 (.cells #[.int .i64 f2, .int .i64 t2, .int .i64 o2, .string s2] 30)))
        clear hb6
        go_wp2_with fail
        refine (HS2.out _).mono ?_
        rintro e w7 ⟨rfl, hb7⟩
        have Y7 := hid_in ((Y6.out.later hb7).later (below_box w7 (.cells #[.int .i64 f2, .int .i64 t2, .int .i64 o2, .string s2] 30)))
        have X7 := hid_in (PBf.new w7 f2 t2 o2 s2 30)
        have Z7 := hid_in (below_later (below_later Z6.out hb7) (below_box w7 (.cells #[.int .i64 f2, .int .i64 t2, .int .i64 o2, .string s2] 30)))
        clear hb7
        obtain ⟨l0, k0, k1, k2, k3, kf⟩ := Y7.out
        obtain ⟨l1, j0, j1, j2, j3, jf⟩ := X7.out
        cases c
        · go_wp2_with fail
          go_ret
          exact ⟨rfl, Z7.out⟩
        · have HP := hid_in (fun w => packetPutI f2 t2 o2 s2 w y (hput rfl))
          clear hput
          go_wp2_with fail
          refine (HP.out _).mono ?_
          rintro e w8 ⟨rfl, hb8⟩
          go_wp2_with fail
          go_ret
          exact ⟨rfl, below_later Z7.out hb8⟩
      · obtain ⟨rfl, rfl, rfl, rfl⟩ := EQ rfl
        have sz := SZ rfl
        clear EQ SZ
        go_wp2_with fail
        generalize hW3 : (w3.alloc (.cells #[.int .i64 f', .int .i64 t', .int .i64 o', .string s'] 30)) = W3 at *
        clear hW3
        generalize w3.heap.size = gx at *
        refine wp_region_lat (Below.refl _ _) (by kernel_rfl) (by kernel_rfl) ?_
        intro hne hcl
        repeat (go_big_quiet_step (first | (go_at_call 22; exact lat_of (PS.out _)) | (go_at_call 23; exact lat_of (OI.out _)) | (go_at_call 24; exact lat_of (OS.out _))))
        refine wpQuiet_nil ?_
        intro w1 hb1
        obtain ⟨hc1, hf1⟩ := bcell hb1
        clear hne hcl
        go_wp2_with fail
        have Z4 := hid_in (below_later Z1.out hb1)
        clear hb1 hc1 hf1 l0 k0 k1 k2 k3 kf l1 j0 j1 j2 j3 jf P1 X3 Z1
        refine (drawPacketGet a' len' cap' z' _ (HR'.out.later Z4.out) HL'.out).mono ?_
        rintro e w5 ⟨y, rfl, hy, hb5⟩
        have Z5 := hid_in (below_later Z4.out hb5)
        clear hb5
        obtain ⟨f2, t2, o2, s2, hf2, hput⟩ := read_facts y
        have G2 := fun w hE => packetGetI y w (by omega) hE
        have S2 := fun w => packetGetS y w (by omega)
        rw [hf2] at G2 S2
        have HG2 := hid_in G2; have HS2 := hid_in S2
        generalize goodB y = c at *
        clear G2 S2 hf2
        go_wp2_with fail
        refine (HG2.out _ (HE.out.later Z5.out)).mono ?_
        rintro e w6 ⟨rfl, hb6⟩
        have Y6 := hid_in (PBf.new w6 f2 t2 o2 s2 30)
        have Z6 := hid_in (below_later (below_later Z5.out hb6) (below_box w6 (.cells #[.int .i64 f2, .int .i64 t2, .int .i64 o2, .string s2] 30)))
        clear hb6
        go_wp2_with fail
        refine (HS2.out _).mono ?_
        rintro e w7 ⟨rfl, hb7⟩
        have Y7 := hid_in ((Y6.out.later hb7).later (below_box w7 (.cells #[.int .i64 f2, .int .i64 t2, .int .i64 o2, .string s2] 30)))
        have X7 := hid_in (PBf.new w7 f2 t2 o2 s2 30)
        have Z7 := hid_in (below_later (below_later Z6.out hb7) (below_box w7 (.cells #[.int .i64 f2, .int .i64 t2, .int .i64 o2, .string s2] 30)))
        clear hb7
        obtain ⟨l0, k0, k1, k2, k3, kf⟩ := Y7.out
        obtain ⟨l1, j0, j1, j2, j3, jf⟩ := X7.out
        cases c
        · go_wp2_with fail
          go_ret
          exact ⟨rfl, Z7.out⟩
        · have HP := hid_in (fun w => packetPutI f2 t2 o2 s2 w y (hput rfl))
          clear hput
          go_wp2_with fail
          refine (HP.out _).mono ?_
          rintro e w8 ⟨rfl, hb8⟩
          go_wp2_with fail
          go_ret
          exact ⟨rfl, below_later Z7.out hb8⟩
    · have hl2 : (1048576 : Int) < len' := by omega
      go_enter Tryd.func8, Tryd.ntmps8
      go_wp2_with fail
      go_ret
      exact ⟨rfl, Below.refl _ _⟩
  · have hl' : (1048576 : Int) < len := by omega
    go_enter Tryd.func8, Tryd.ntmps8
    go_wp2_with fail
    go_ret
    exact ⟨rfl, Below.refl _ _⟩
end Go.Proofs.YtgolcjlogokbiaaDoor
