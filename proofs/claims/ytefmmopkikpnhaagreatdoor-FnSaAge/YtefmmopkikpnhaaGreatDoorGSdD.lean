/- What is proved: the contracts of SadD, one behind the other. The conditions stand at each theorem. -/
import Derived.Test.YtefmmopkikpnhaaGreatDoorGSdC
import Derived.Test.YtefmmopkikpnhaaGreatDoorGReP
import Derived.Test.YtefmmopkikpnhaaGreatDoorGFdB
namespace Go.Proofs.YtefmmopkikpnhaaGreatDoor
open Go.RowKit Go.LatT Go.BlockM Go.PlainAid Go.OpnT Go.ApdG Go.BytM Go.AesM Go.RowQ Go.WinMath
set_option linter.unusedVariables false
set_option linter.unusedSimpArgs false
/-- What a choice of a list needs: that the list lies there. -/
def needOne (one : FuncId) (arr : Array Value) (f : FuncId) (args : Array Value) : List (Nat × Obj) :=
  if f = one then (match (args[1]? : Option Value) with | some (Value.slice (some ad) _ _) => [(ad.block, Obj.cells arr 3)] | _ => []) else []
def postOne (vs : List Int) (f : FuncId) (_ : Array Value) (u : Value) : Prop := f = 50 → ∃ x ∈ vs, u = .int .i64 x
/-- A block that holds keys, whichever. -/
def Sh11 (ob : Obj) : Prop := ∃ k0 k1 k2 k3 k4 k5 k6 k7 k8 k9 k10 : Value, ob = .cells #[k0, k1, k2, k3, k4, k5, k6, k7, k8, k9, k10] 45
/-- The class of a reader's worlds in which a block may be stored to. -/
structure Sp (K R G : Nat) (sl : Value) (q : Int) (w0 : World) (n : Nat) (w : World) : Prop where
  os : w.os = w0.os
  tape : w.tape = w0.tape
  output : w.output = w0.output
  size : w0.heap.size ≤ w.heap.size
  blk : ∀ k, k < w0.heap.size → k ≠ R → k ≠ G → w.heap[k]? = w0.heap[k]?
  box : ∃ ob, Sh11 ob ∧ w.heap[G]? = some ob
  rd : ∃ p, q ≤ p ∧ p ≤ q + 1000 * (min n K : Nat) ∧ Rdr w R sl p
theorem Sp.gl {K R G : Nat} {sl : Value} {q : Int} {w0 w : World} {n : Nat} (h : Sp K R G sl q w0 n w) : G < w.heap.size := by
  obtain ⟨ob, _, h2⟩ := h.box
  exact (Array.getElem?_eq_some_iff.1 h2).1
theorem Sp.mv {K R G : Nat} {sl : Value} {q : Int} {w0 w w' : World} {n m : Nat} {p : Int} (h : Sp K R G sl q w0 n w) (hRG : G ≠ R) (hm : Mv R w w') (h1 : q ≤ p) (h2 : p ≤ q + 1000 * (min m K : Nat)) (hr : Rdr w' R sl p) : Sp K R G sl q w0 m w' := by
  refine ⟨hm.os.trans h.os, hm.tape.trans h.tape, hm.output.trans h.output, Nat.le_trans h.size hm.size, fun k hk h3 h4 => (hm.block k (by have := h.size; omega) h3).trans (h.blk k hk h3 h4), ?_, p, h1, h2, hr⟩
  obtain ⟨ob, h5, h6⟩ := h.box
  exact ⟨ob, h5, (hm.block G h.gl hRG).trans h6⟩
theorem Sp.alloc {K R G : Nat} {sl : Value} {q : Int} {w0 : World} (hRG : G ≠ R) : ∀ n w o, Sp K R G sl q w0 n w → Sp K R G sl q w0 n (w.alloc o) := by
  intro n w o h
  obtain ⟨p, h1, h2, h3⟩ := h.rd
  exact h.mv hRG (Mv.of_below (below_box _ _)) h1 h2 (h3.later (below_box _ _))
theorem Sp.drew {K R G : Nat} {sl : Value} {q : Int} {w0 w : World} {n : Nat} (hRG : G ≠ R) (h : Sp K R G sl q w0 n w) : Sp K R G sl q w0 n w.drew := by
  obtain ⟨p, h1, h2, h3⟩ := h.rd
  exact h.mv hRG (Mv.of_below ((Below.refl _ _).drew)) h1 h2 h3.drew
theorem Sp.put {K R G : Nat} {sl : Value} {q : Int} {w0 : World} (hRG : G ≠ R) (hs : ∀ bb off n cap, sl = .slice (some ⟨bb, off, none⟩) n cap → 1 ≤ n → bb ≠ G) : ∀ n w ob, Sh11 ob → Sp K R G sl q w0 n w → Sp K R G sl q w0 n (RegP.wput w G ob) := by
  intro n w ob ho h
  have he : ∀ k, k ≠ G → (RegP.wput w G ob).heap[k]? = w.heap[k]? := fun k hk => by
    unfold RegP.wput
    rw [Array.getElem?_setIfInBounds_ne (fun e => hk e.symm)]
  have hc : ∀ k o, k ≠ G → (RegP.wput w G ob).cell? ⟨k, o, none⟩ = w.cell? ⟨k, o, none⟩ := fun k o hk => by unfold World.cell?; rw [he k hk]
  have hf : ∀ k o, k ≠ G → (RegP.wput w G ob).frozen? ⟨k, o, none⟩ = w.frozen? ⟨k, o, none⟩ := fun k o hk => by unfold World.frozen?; rw [he k hk]
  obtain ⟨p, h1, h2, h3⟩ := h.rd
  refine ⟨h.os, h.tape, h.output, by simpa [RegP.wput] using h.size, fun k hk hR hG => (he k hG).trans (h.blk k hk hR hG), ⟨ob, ho, by simp [RegP.wput, h.gl]⟩, p, h1, h2, ?_⟩
  refine ⟨by rw [hc _ _ hRG.symm]; exact h3.c0, by rw [hc _ _ hRG.symm]; exact h3.c1, by rw [hf _ _ hRG.symm]; exact h3.fz, ?_⟩
  rcases h3.src with h4 | ⟨bb, off, n, cap, z, e, hne, h5, h6, hsr⟩
  · exact .inl h4
  · exact .inr ⟨bb, off, n, cap, z, e, hne, h5, h6, ⟨fun i hi => by rw [hc _ _ (hs bb off n cap e h5)]; exact hsr.cell i hi, hsr.lo, hsr.hi⟩⟩
theorem putSa_wput {w : World} {g : Nat} {k0 k1 k2 k3 k4 k5 k6 k7 k8 k9 k10 : Value} (x : SaV) (v : Value) (h : w.heap[g]? = some (.cells #[k0, k1, k2, k3, k4, k5, k6, k7, k8, k9, k10] 45)) : putSa w g x v = RegP.wput w g (.cells #[.int .i64 x.spi, .int .i64 x.tun, .string x.key, .string x.mac, .int .i64 x.since, .int .i64 x.soft, .int .i64 x.hard, .int .i64 x.ticks, .int .i64 x.sent, .int .i64 x.top, v] 45) := by
  have hlt := (Array.getElem?_eq_some_iff.1 h).1
  have h2 : w.heap[g] = .cells #[k0, k1, k2, k3, k4, k5, k6, k7, k8, k9, k10] 45 := (Array.getElem?_eq_some_iff.1 h).2
  unfold putSa World.setCell RegP.wput
  simp only [World.mk.injEq, and_true]
  apply Array.ext_getElem?
  intro k
  simp only [Array.getElem?_modify, Array.getElem?_setIfInBounds]
  by_cases hk : g = k
  · subst hk
    simp [h2, hlt]
  · simp [hk]
def needG (G : Nat) (one : FuncId) (arr : Array Value) (f : FuncId) (args : Array Value) : List (Nat × Obj) := (needOne one arr f args).filter fun p => decide (p.1 ≠ G)
theorem Sp.one {K R G : Nat} {sl : Value} {q : Int} {w0 : World} {g n : Nat} {Post : FuncId → Array Value → Value → Prop} (vs : List Int) (arr : Array Value) (hRG : G ≠ R) (hgG : g ≠ G) (hq : 0 ≤ q) (hq' : q + 1000 * K ≤ 1099511627776) (harr : arr = (vs.map fun v => Value.int .i64 v).toArray) (hn : n = vs.length) (hl : 1 ≤ vs.length) (hl' : vs.length ≤ 100) (hpost : ∀ u ∈ vs, Post 50 #[.pointer (some ⟨R, 0, none⟩), .slice (some ⟨g, 0, none⟩) n n] (.int .i64 u)) :
    RegP.Contract Tryz.prog (Sp K R G sl q w0) (fun k => k ≠ R) K Post (needG G 50 arr) 50 #[.pointer (some ⟨R, 0, none⟩), .slice (some ⟨g, 0, none⟩) n n] := by
  intro k w hk h hneed
  obtain ⟨p, h1, h2, h3⟩ := h.rd
  have hh := hneed (g, .cells arr 3) (by simp [needG, needOne, hgG])
  subst harr hn
  have hg : g ≠ R := hh.1
  refine (oneM R g sl p vs w h3 hg (by omega) (by omega) hl hl' (fun i hi => ?_)).mono ?_
  · have := RegP.held_cell hh i (by simpa using hi)
    rw [this]; simp [hi]
  · rintro e w' ⟨u, rfl, hu, h4, h5⟩
    exact ⟨_, rfl, hpost u hu, h.mv hRG h5 (by omega) (by omega) h4, fun k hk hl => h5.block k hl hk⟩
theorem u8_not {w : World} {G off : Nat} {z : Int} (h : w.heap[G]? = some (.cells #[.int .i64 0, .int .i64 0, .string ⟨#[]⟩, .string ⟨#[]⟩, .int .i64 0, .int .i64 0, .int .i64 0, .int .i64 0, .int .i64 0, .int .i64 0, .slice none 0 0] 45)) (hc : w.cell? ⟨G, off, none⟩ = some (.int .u8 z)) : False := by
  have h2 := (cell_of_row w G off _ _ _ h).symm.trans hc
  have := Array.mem_of_getElem? h2
  simp at this
theorem owns_blk {w w' : World} {base size n : Nat} {e : TypeId} {v : Value} {xs : List Value} (h : w.ownsRow base e size v n xs) (he : ∀ k, v.ownBlock = some k → w'.heap[k]? = w.heap[k]?) : w'.ownsRow base e size v n xs := by
  obtain ⟨h1, h2⟩ := h
  refine ⟨h1, ?_⟩
  rcases h2 with h2 | ⟨g, cap, cur, e1, e2, e3, e4, e5, e6, e7⟩
  · exact .inl h2
  · exact .inr ⟨g, cap, cur, e1, e2, by rw [he g (by rw [e1]; rfl)]; exact e3, e4, e5, e6, e7⟩
set_option maxHeartbeats 4000000 in
set_option maxRecDepth 100000 in
theorem drawSaAge (a : Option Addr) (len cap : Nat) (z : List Int) (w : World) (h : RowC w a len cap z) (hl : len ≤ 1048576) :
    Calls Tryz.prog 33 #[.slice a len cap] w fun e w' => ∃ (x : SaV) (v : Value) (L : List Int) (now : Int), e = .returned (.tuple #[vSv x v, .int .i64 now]) ∧ Anyd x ∧ L.length ≤ 17 ∧ IL w' v L ∧ 0 ≤ now ∧ now ≤ 100 ∧ Below w.heap.size w w' := by
  have HR := hid_in (h.later (below_box w (.cells #[.int .i64 0, .int .i64 0, .string ⟨#[]⟩, .string ⟨#[]⟩, .int .i64 0, .int .i64 0, .int .i64 0, .int .i64 0, .int .i64 0, .int .i64 0, .slice none 0 0] 45)))
  have S0 := hid_in (SaBox.new w zeroSa (.slice none 0 0) 45)
  have Z0 := hid_in (below_box w (.cells #[.int .i64 0, .int .i64 0, .string ⟨#[]⟩, .string ⟨#[]⟩, .int .i64 0, .int .i64 0, .int .i64 0, .int .i64 0, .int .i64 0, .int .i64 0, .slice none 0 0] 45))
  clear h
  go_enter Tryz.func33, Tryz.ntmps33
  go_wp2_with fail
  refine (l1OpenC a len cap z _ HR.out hl).mono ?_
  rintro e w1 ⟨sl, rfl, h1, hb1⟩
  have hg1 : w1.heap[w.heap.size]? = some (.cells #[.int .i64 0, .int .i64 0, .string ⟨#[]⟩, .string ⟨#[]⟩, .int .i64 0, .int .i64 0, .int .i64 0, .int .i64 0, .int .i64 0, .int .i64 0, .slice none 0 0] 45) := by rw [hb1.block _ (by simp)]; exact heap_alloc_new w _
  have HS : Hid (∀ bb off n cap, sl = .slice (some ⟨bb, off, none⟩) n cap → 1 ≤ n → bb ≠ w.heap.size) := by
    intro bb off n cap e hn
    rcases h1.src with ⟨a0, c0, e0⟩ | ⟨bb0, off0, n0, cap0, z0, e0, hne, h5, h6, hsr⟩
    · rw [e] at e0
      injection e0 with _ e0 _
      omega
    · rw [e] at e0
      injection e0 with e0 e1 _
      injection e0 with e0
      injection e0 with e2 e3 _
      subst e2 e3
      intro hbb
      subst hbb
      exact u8_not hg1 (hsr.cell 0 (by omega))
  have H1 : Hid (Rdr w1 (w.heap.size + 1) sl 0) := by show Rdr _ _ _ _; simpa using h1
  have S1 := hid_in (S0.out.later hb1); have Z1 := hid_in (below_later Z0.out hb1)
  have hR1 : w.heap.size + 1 < w1.heap.size := H1.out.lt
  clear h1 hb1 S0 Z0 HR
  go_wp2_with fail
  refine (l12AnySa_any (w.heap.size + 1) sl 0 _ H1.out (by omega) (by omega)).mono ?_
  rintro e w2 ⟨x, v1, L, q2, rfl, ad, hL, o2, hq0, hq1, h2, m2⟩
  obtain ⟨a1, c1, rfl⟩ := owns_form o2
  have AD := hid_in ad
  have H2 := hid_in h2; have S2 := hid_in (S1.out.mv m2 (by omega)); have Z2 := hid_in (below_mv Z1.out (show w.heap.size ≤ w.heap.size + 1 by omega) m2)
  have O2 := hid_in o2
  have hz2 := m2.size
  have s0 := ad.s0; have s1 := ad.s1; have t0 := ad.t0; have t1 := ad.t1
  have HG2 := hid_in ((m2.block _ (by omega) (by omega)).trans hg1)
  clear ad h2 m2 o2 H1 S1 Z1 hg1
  go_wp2_with fail
  have hbx := below_box w2 (.cells #[.int .i64 x.spi, .int .i64 x.tun, .string x.key, .string x.mac, .int .i64 x.since, .int .i64 x.soft, .int .i64 x.hard, .int .i64 x.ticks, .int .i64 x.sent, .int .i64 x.top, .slice a1 L.length c1] 45)
  have B3 := hid_in (SaBox.new w2 x (.slice a1 L.length c1) 45)
  have H3 := hid_in (H2.out.later hbx); have S3 := hid_in (S2.out.later hbx); have O3 := hid_in (owns_below O2.out hbx); have Z3 := hid_in (below_later Z2.out hbx); have HG3 := hid_in ((hbx.block _ (by omega)).trans HG2.out)
  clear hbx H2 S2 O2 Z2
  generalize w2.alloc (.cells #[.int .i64 x.spi, .int .i64 x.tun, .string x.key, .string x.mac, .int .i64 x.since, .int .i64 x.soft, .int .i64 x.hard, .int .i64 x.ticks, .int .i64 x.sent, .int .i64 x.top, .slice a1 L.length c1] 45) = w3 at *
  have hGR : w2.heap.size ≠ w.heap.size + 1 := by omega
  have hR3 := H3.out.lt
  have e1 : IntKind.i64.wrap (x.ticks - 1) = x.ticks - 1 := by rw [IntKind.wrap_i64]; omega
  have e2 : IntKind.i64.wrap (2 * x.ticks) = 2 * x.ticks := by rw [IntKind.wrap_i64]; omega
  have e3 : IntKind.i64.wrap (2 * x.ticks - 1) = 2 * x.ticks - 1 := by rw [IntKind.wrap_i64]; omega
  have hGw : w.heap.size < w3.heap.size := S3.out.lt
  have hRG : w.heap.size ≠ w.heap.size + 1 := by omega
  have c0 : Sp 21 (w.heap.size + 1) w.heap.size sl q2 w3 0 w3 := by
    refine ⟨rfl, rfl, rfl, Nat.le_refl _, fun _ _ _ _ => rfl, ?_, q2, by omega, by simp, H3.out⟩
    exact ⟨_, ⟨_, _, _, _, _, _, _, _, _, _, _, rfl⟩, HG3.out⟩
  refine RegP.wp_region_E0 (needs := needG w.heap.size 50 #[.int .i64 0, .int .i64 (x.ticks - 1), .int .i64 x.ticks, .int .i64 (2 * x.ticks - 1), .int .i64 (2 * x.ticks)]) (Sp 21 (w.heap.size + 1) w.heap.size sl q2 w3) (fun k => k ≠ w.heap.size + 1) w3.heap.size (postOne [0, x.ticks - 1, x.ticks, 2 * x.ticks - 1, 2 * x.ticks]) Sh11 (RegP.ownBy [2] (fun _ => w.heap.size))
    (by kernel_rfl) (by kernel_rfl) (Sp.drew hRG c0) (Sp.alloc hRG) (fun n v h => by obtain ⟨p, _, _, hr⟩ := h.rd; have := hr.lt; omega) (fun n v h => h.size) ?hn (RegP.ownB_of_key (by kernel_rfl) (by simp)) ?hp ?_
  case hn =>
    intro f args p hp x' _ he
    obtain ⟨t, ht, hb⟩ := RegP.ownBy_mem he
    have h2 := (List.mem_filter.1 hp).2
    simp at h2 hb
    exact h2 hb.symm
  case hp =>
    intro x' _ g hg
    obtain ⟨t, ht, rfl⟩ := RegP.ownBy_mem hg
    exact ⟨hRG, hGw, Sp.put hRG HS.out⟩
  have hnn : Nonempty (RegP.LatC (Sp 21 (w.heap.size + 1) w.heap.size sl q2 w3)) := ⟨⟨0, w3, c0⟩⟩
  have hG5 : ∀ (l : RegP.LatC (Sp 21 (w.heap.size + 1) w.heap.size sl q2 w3)) i, l.x.cell? ⟨w2.heap.size, i, none⟩ = w3.cell? ⟨w2.heap.size, i, none⟩ := fun l i => by unfold World.cell?; rw [l.h.blk _ B3.out.lt hGR (by omega)]
  have hcl0 : ∀ l : RegP.LatC (Sp 21 (w.heap.size + 1) w.heap.size sl q2 w3), l.x.cell? ⟨w2.heap.size, 0, none⟩ = some (.int .i64 x.spi) := fun l => (hG5 l 0).trans B3.out.c0
  have hcl1 : ∀ l : RegP.LatC (Sp 21 (w.heap.size + 1) w.heap.size sl q2 w3), l.x.cell? ⟨w2.heap.size, 1, none⟩ = some (.int .i64 x.tun) := fun l => (hG5 l 1).trans B3.out.c1
  have hcl2 : ∀ l : RegP.LatC (Sp 21 (w.heap.size + 1) w.heap.size sl q2 w3), l.x.cell? ⟨w2.heap.size, 2, none⟩ = some (.string x.key) := fun l => (hG5 l 2).trans B3.out.c2
  have hcl3 : ∀ l : RegP.LatC (Sp 21 (w.heap.size + 1) w.heap.size sl q2 w3), l.x.cell? ⟨w2.heap.size, 3, none⟩ = some (.string x.mac) := fun l => (hG5 l 3).trans B3.out.c3
  have hcl4 : ∀ l : RegP.LatC (Sp 21 (w.heap.size + 1) w.heap.size sl q2 w3), l.x.cell? ⟨w2.heap.size, 4, none⟩ = some (.int .i64 x.since) := fun l => (hG5 l 4).trans B3.out.c4
  have hcl5 : ∀ l : RegP.LatC (Sp 21 (w.heap.size + 1) w.heap.size sl q2 w3), l.x.cell? ⟨w2.heap.size, 5, none⟩ = some (.int .i64 x.soft) := fun l => (hG5 l 5).trans B3.out.c5
  have hcl6 : ∀ l : RegP.LatC (Sp 21 (w.heap.size + 1) w.heap.size sl q2 w3), l.x.cell? ⟨w2.heap.size, 6, none⟩ = some (.int .i64 x.hard) := fun l => (hG5 l 6).trans B3.out.c6
  have hcl7 : ∀ l : RegP.LatC (Sp 21 (w.heap.size + 1) w.heap.size sl q2 w3), l.x.cell? ⟨w2.heap.size, 7, none⟩ = some (.int .i64 x.ticks) := fun l => (hG5 l 7).trans B3.out.c7
  have hcl8 : ∀ l : RegP.LatC (Sp 21 (w.heap.size + 1) w.heap.size sl q2 w3), l.x.cell? ⟨w2.heap.size, 8, none⟩ = some (.int .i64 x.sent) := fun l => (hG5 l 8).trans B3.out.c8
  have hcl9 : ∀ l : RegP.LatC (Sp 21 (w.heap.size + 1) w.heap.size sl q2 w3), l.x.cell? ⟨w2.heap.size, 9, none⟩ = some (.int .i64 x.top) := fun l => (hG5 l 9).trans B3.out.c9
  have hcl10 : ∀ l : RegP.LatC (Sp 21 (w.heap.size + 1) w.heap.size sl q2 w3), l.x.cell? ⟨w2.heap.size, 10, none⟩ = some (.slice a1 L.length c1) := fun l => (hG5 l 10).trans B3.out.c10
  clear hG5
  repeat (refine RegP.wpE_one rfl rfl ?_; go_big_quiet_step (fail); refine wpQuiet_nil ?_)
  refine RegP.wpE_new (L := w3.heap.size) (mk := fun g => .slice (some ⟨g, 0, none⟩) 5 5) (ob := .cells #[.int .i64 0, .int .i64 (x.ticks - 1), .int .i64 x.ticks, .int .i64 (2 * x.ticks - 1), .int .i64 (2 * x.ticks)] 3) (by rfl) (fun n v h => h.size) (fun _ => by go_simp) ?_
  intro g3 hg3
  simp only [Act.put, List.setIfInBounds_toArray, List.set_cons_succ, List.set_cons_zero]
  refine RegP.wpE_call (by rfl) (fun _ => by go_simp) (Sp.one (Post := postOne [0, x.ticks - 1, x.ticks, 2 * x.ticks - 1, 2 * x.ticks]) (g := g3) [0, x.ticks - 1, x.ticks, 2 * x.ticks - 1, 2 * x.ticks] _ hRG (show g3 ≠ w.heap.size by omega) (by omega) (by omega) rfl rfl (by simp) (by simp) (fun u hu _ => ⟨u, hu, rfl⟩)) ⟨.int .i64 0, fun _ => ⟨0, by simp, rfl⟩⟩ (by simp [needG, needOne]) ?_
  intro u3 hu3
  obtain ⟨y, hy, rfl⟩ := hu3 rfl
  have hy2 : 0 ≤ y ∧ y ≤ 18 := by
    simp only [List.mem_cons, List.not_mem_nil, or_false] at hy
    omega
  obtain ⟨hy0, hy1⟩ := hy2
  have e4 : IntKind.i64.wrap (x.since + y) = x.since + y := by rw [IntKind.wrap_i64]; omega
  clear hy hu3
  simp only [Act.put, List.setIfInBounds_toArray, List.set_cons_succ, List.set_cons_zero]
  repeat (refine RegP.wpE_one rfl rfl ?_; go_big_quiet_step (fail); refine wpQuiet_nil ?_)
  refine RegP.wpE_poke (g := w.heap.size) (ob := .cells #[.int .i64 x.spi, .int .i64 x.tun, .string x.key, .string x.mac, .int .i64 x.since, .int .i64 x.soft, .int .i64 x.hard, .int .i64 x.ticks, .int .i64 x.sent, .int .i64 x.top, .slice a1 L.length c1] 45) (by rfl) (by rfl) ⟨_, _, _, _, _, _, _, _, _, _, _, rfl⟩ (fun n v h => h.gl) (fun n v hv => ?_) ?_
  · obtain ⟨ob, ⟨k0, k1, k2, k3, k4, k5, k6, k7, k8, k9, k10, rfl⟩, hb⟩ := hv.box
    have f := frozen_of_row v w.heap.size
    rw [← putSa_wput x (.slice a1 L.length c1) hb]
    have z0 : v.cell? ⟨w.heap.size, 0, none⟩ = some k0 := cell_of_row v w.heap.size 0 _ _ _ hb
    have y0 : v.frozen? ⟨w.heap.size, 0, none⟩ = false := by have := frozen_of_row v w.heap.size 0 _ _ hb; simpa using this
    have z1 : v.cell? ⟨w.heap.size, 1, none⟩ = some k1 := cell_of_row v w.heap.size 1 _ _ _ hb
    have y1 : v.frozen? ⟨w.heap.size, 1, none⟩ = false := by have := frozen_of_row v w.heap.size 1 _ _ hb; simpa using this
    have z2 : v.cell? ⟨w.heap.size, 2, none⟩ = some k2 := cell_of_row v w.heap.size 2 _ _ _ hb
    have y2 : v.frozen? ⟨w.heap.size, 2, none⟩ = false := by have := frozen_of_row v w.heap.size 2 _ _ hb; simpa using this
    have z3 : v.cell? ⟨w.heap.size, 3, none⟩ = some k3 := cell_of_row v w.heap.size 3 _ _ _ hb
    have y3 : v.frozen? ⟨w.heap.size, 3, none⟩ = false := by have := frozen_of_row v w.heap.size 3 _ _ hb; simpa using this
    have z4 : v.cell? ⟨w.heap.size, 4, none⟩ = some k4 := cell_of_row v w.heap.size 4 _ _ _ hb
    have y4 : v.frozen? ⟨w.heap.size, 4, none⟩ = false := by have := frozen_of_row v w.heap.size 4 _ _ hb; simpa using this
    have z5 : v.cell? ⟨w.heap.size, 5, none⟩ = some k5 := cell_of_row v w.heap.size 5 _ _ _ hb
    have y5 : v.frozen? ⟨w.heap.size, 5, none⟩ = false := by have := frozen_of_row v w.heap.size 5 _ _ hb; simpa using this
    have z6 : v.cell? ⟨w.heap.size, 6, none⟩ = some k6 := cell_of_row v w.heap.size 6 _ _ _ hb
    have y6 : v.frozen? ⟨w.heap.size, 6, none⟩ = false := by have := frozen_of_row v w.heap.size 6 _ _ hb; simpa using this
    have z7 : v.cell? ⟨w.heap.size, 7, none⟩ = some k7 := cell_of_row v w.heap.size 7 _ _ _ hb
    have y7 : v.frozen? ⟨w.heap.size, 7, none⟩ = false := by have := frozen_of_row v w.heap.size 7 _ _ hb; simpa using this
    have z8 : v.cell? ⟨w.heap.size, 8, none⟩ = some k8 := cell_of_row v w.heap.size 8 _ _ _ hb
    have y8 : v.frozen? ⟨w.heap.size, 8, none⟩ = false := by have := frozen_of_row v w.heap.size 8 _ _ hb; simpa using this
    have z9 : v.cell? ⟨w.heap.size, 9, none⟩ = some k9 := cell_of_row v w.heap.size 9 _ _ _ hb
    have y9 : v.frozen? ⟨w.heap.size, 9, none⟩ = false := by have := frozen_of_row v w.heap.size 9 _ _ hb; simpa using this
    have z10 : v.cell? ⟨w.heap.size, 10, none⟩ = some k10 := cell_of_row v w.heap.size 10 _ _ _ hb
    have y10 : v.frozen? ⟨w.heap.size, 10, none⟩ = false := by have := frozen_of_row v w.heap.size 10 _ _ hb; simpa using this
    clear f hcl0 hcl1 hcl2 hcl3 hcl4 hcl5 hcl6 hcl7 hcl8 hcl9 hcl10
    go_simp
  simp only [Act.put]
  repeat (refine RegP.wpE_one rfl rfl ?_; go_big_quiet_step (fail); refine wpQuiet_nil ?_)
  refine RegP.wpE_nil ?_
  intro m7 w7 h7 hh
  clear hnn hcl0 hcl1 hcl2 hcl3 hcl4 hcl5 hcl6 hcl7 hcl8 hcl9 hcl10
  have hG := hh (w.heap.size, .cells #[.int .i64 x.spi, .int .i64 x.tun, .string x.key, .string x.mac, .int .i64 x.since, .int .i64 x.soft, .int .i64 x.hard, .int .i64 x.ticks, .int .i64 x.sent, .int .i64 x.top, .slice a1 L.length c1] 45) (by simp)
  have Z7 : Hid (Below w.heap.size w w7) := ⟨h7.os.trans Z3.out.os, h7.tape.trans Z3.out.tape, h7.output.trans Z3.out.output, Nat.le_trans Z3.out.size h7.size, fun k hk => (h7.blk k (by omega) (by omega) (by omega)).trans (Z3.out.block k hk)⟩
  have O7 := hid_in (owns_blk O3.out (fun k hk => h7.blk k (owns_own O3.out k hk).2 (by have := (owns_own O3.out k hk).1; omega) (by have := (owns_own O3.out k hk).1; omega)))
  have HG := hid_in hG
  clear hG hh h7 S3 Z3 O3 c0
  go_wp2_with (exact bodyPost_ret (v := .tuple #[vSv x (.slice a1 L.length c1), .int .i64 (x.since + y)]) (by
    have d0 := RegP.held_cell HG.out 0 (by simp)
    have d1 := RegP.held_cell HG.out 1 (by simp)
    have d2 := RegP.held_cell HG.out 2 (by simp)
    have d3 := RegP.held_cell HG.out 3 (by simp)
    have d4 := RegP.held_cell HG.out 4 (by simp)
    have d5 := RegP.held_cell HG.out 5 (by simp)
    have d6 := RegP.held_cell HG.out 6 (by simp)
    have d7 := RegP.held_cell HG.out 7 (by simp)
    have d8 := RegP.held_cell HG.out 8 (by simp)
    have d9 := RegP.held_cell HG.out 9 (by simp)
    have d10 := RegP.held_cell HG.out 10 (by simp)
    simp at d0 d1 d2 d3 d4 d5 d6 d7 d8 d9 d10
    simp [results, Tryz.results33, go_sem, d0, d1, d2, d3, d4, d5, d6, d7, d8, d9, d10]) rfl ⟨x, _, L, _, rfl, AD.out, hL, owns_il O7.out, by omega, by omega, Z7.out⟩)
end Go.Proofs.YtefmmopkikpnhaaGreatDoor

