/- Blocks written to a builder of texts, in the program, as contracts. The conditions stand at each theorem. -/
import Derived.Test.YtdbobeojbdcmdaaCipB
import Derived.Test.YtdbobeojbdcmdaaShelf
namespace Go.Proofs.Ytdbobeojbdcmdaa
open Go.RowKit Go.LatT Go.BlockM Go.PlainAid Go.OpnT Go.ApdG Go.BytM Go.AesM Go.RowQ Go.RegH
set_option linter.unusedVariables false
set_option linter.unusedSimpArgs false
theorem sizeBld : (Try.prog.info? 75).map (·.size) = some 2 := by kernel_rfl
theorem liesBld : liesAt Try.prog Try.prog.depth 75 (2 / Try.prog.cellsOf 75) 0 75 1 = true := by kernel_rfl
set_option maxHeartbeats 1000000 in
set_option maxRecDepth 100000 in
theorem checkFresh (b : Nat) (w : World) (h0 : w.cell? ⟨b, 0, none⟩ = some (.pointer none)) (hsh : w.shape? b = some (75, 2)) (hfz : w.frozen? ⟨b, 0, none⟩ = false) :
    Calls Try.prog 72 #[.pointer (some ⟨b, 0, none⟩)] w fun e w' => e = .returned (.tuple #[]) ∧ w' = w.setCell ⟨b, 0, none⟩ (.pointer (some ⟨b, 0, none⟩)) := by
  obtain ⟨j, hj, hjs⟩ := Option.map_eq_some_iff.1 sizeBld
  go_enter Try.func72, Try.ntmps72
  go_wp2
  rw [Lib.run_to_unsafe w ⟨b, 0, none⟩ Try.underlying73 Try.underlying86 hj (by rw [hjs]; decide) hsh (Nat.zero_lt_succ 1)]
  simp only [Result.andThen]
  rw [Oper.upon_value]
  go_wp2
  rw [run_callFunc_extern Try.func73 (by kernel_rfl) (by kernel_rfl) (by kernel_rfl) (e := Extern.AbiNoEscape.same) (by kernel_rfl)]
  rw [Lib.run_noEscape]
  simp only [Result.andThen]
  rw [Oper.upon_value]
  go_wp2
  rw [Lib.run_from_unsafe w ⟨b, 0, none⟩ Try.underlying86 Try.underlying73 hj hsh liesBld]
  simp only [Result.andThen]
  rw [Oper.upon_value]
  go_wp2
  go_end0
  exact ⟨rfl, rfl⟩
set_option maxHeartbeats 1000000 in
set_option maxRecDepth 100000 in
theorem checkUsed (b : Nat) (w : World) (h0 : w.cell? ⟨b, 0, none⟩ = some (.pointer (some ⟨b, 0, none⟩))) :
    Calls Try.prog 72 #[.pointer (some ⟨b, 0, none⟩)] w fun e w' => e = .returned (.tuple #[]) ∧ w' = w := by
  obtain ⟨j, hj, hjs⟩ := Option.map_eq_some_iff.1 sizeBld
  go_enter Try.func72, Try.ntmps72
  go_wp2
  rw [Lib.run_neq_ptr_same w _ Try.underlying73 hj]
  go_wp2
  go_end0
  exact ⟨rfl, rfl⟩
/-- A builder of texts that lies in block b, all that it owns lying from B on. -/
def Bd (w : World) (B b : Nat) (bs : List Value) : Prop := Lib.IsBuilder 75 5 B b bs w
theorem bFacts {B b n : Nat} {bs : List Value} {v v3 : Value} {p : Value} {w1 w3 : World} (hbk : w1.heap[b]? = some (.cells #[p, v] 75 (0, 0))) (hne : v.ownBlock ≠ some b) (o3 : w3.ownsRow B 5 1 v3 n bs) (g3 : w1.grownBy w3 v.ownBlock) :
    ∃ ao n' cap, v3 = .slice ao n' cap ∧ w3.cell? ⟨b, 1, none⟩ = some v ∧ w3.frozen? ⟨b, 1, none⟩ = false ∧ w3.heap[b]? = some (.cells #[p, v] 75 (0, 0)) := by
  have hlt : b < w1.heap.size := (Array.getElem?_eq_some_iff.1 hbk).1
  have hb2 : w3.heap[b]? = some (.cells #[p, v] 75 (0, 0)) := by
    rw [g3.block b hlt (fun e => hne e.symm)]
    exact hbk
  obtain ⟨ao, n', cap, hv⟩ : ∃ ao n' cap, v3 = .slice ao n' cap := by
    rcases o3.2 with ⟨hv, _⟩ | ⟨g, cap, cur, hv, _⟩
    · exact ⟨_, _, _, hv⟩
    · exact ⟨_, _, _, hv⟩
  exact ⟨ao, n', cap, hv, by rw [Lib.cell_of_heap hb2]; rfl, Lib.frozen_of_heap hb2 1, hb2⟩
set_option maxHeartbeats 2000000 in
set_option maxRecDepth 100000 in
theorem bWrite (B b g : Nat) (bs : List Value) (f : Nat → Nat) (w : World) (h : Bd w B b bs) (hg : RB w g 16 41 f) (hlen : bs.length ≤ 1000000) (hBw : B ≤ w.heap.size) :
    Calls Try.prog 67 #[.pointer (some ⟨b, 0, none⟩), .slice (some ⟨g, 0, none⟩) 16 16] w fun e w' => e = .returned (.tuple #[.int .i64 16, .nilIface]) ∧ Bd w' B b (bs ++ (rC 16 f).toList) ∧ Below B w w' := by
  have hbg : ∀ v p, w.heap[b]? = some (.cells #[p, v] 75 (0, 0)) → b ≠ g := by
    intro v p hb e
    have hg2 : w.heap[g]? = _ := hg
    rw [← e, hb] at hg2
    have := congrArg (fun o => match o with | some (Obj.cells _ t _) => t | _ => 0) hg2
    simp at this
  have cC : Calls Try.prog 72 #[.pointer (some ⟨b, 0, none⟩)] w fun e w' => e = .returned (.tuple #[]) ∧ Lib.BuilderAt 75 5 B b (.pointer (some ⟨b, 0, none⟩)) bs w' ∧ Below B w w' ∧ RB w' g 16 41 f := by
    rcases h with h | h
    · refine (checkFresh b w h.cell0 h.shape h.frozen0).mono ?_
      rintro e w' ⟨rfl, rfl⟩
      obtain ⟨hB, v, hb, _, _⟩ := id h
      exact ⟨rfl, h.used _, (Below.refl B w).setCell (p := ⟨b, 0, none⟩) h.1 _, by unfold RB; rw [heap_setCell_other _ ⟨b, 0, none⟩ _ _ (fun e => hbg v _ hb e.symm)]; exact hg⟩
    · refine (checkUsed b w h.cell0).mono ?_
      rintro e w' ⟨rfl, rfl⟩
      exact ⟨rfl, h, Below.refl B _, hg⟩
  clear hbg
  go_enter Try.func67, Try.ntmps67
  go_wp2_with fail
  refine cC.mono ?_
  rintro e w1 ⟨rfl, h1, hb1, hg1⟩
  obtain ⟨hB, v, hbk, hown, hne⟩ := h1
  have HG := hid_in hg1; have HB1 := hid_in hb1; have HO := hid_in hown; have HK := hid_in hbk
  have c0 : w1.cell? ⟨b, 0, none⟩ = some (.pointer (some ⟨b, 0, none⟩)) := by rw [Lib.cell_of_heap hbk]; rfl
  have c1 : w1.cell? ⟨b, 1, none⟩ = some v := by rw [Lib.cell_of_heap hbk]; rfl
  have hlt : b < w1.heap.size := (Array.getElem?_eq_some_iff.1 hbk).1
  clear h hg hg1 hb1 hown hbk cC
  have hl : (rC 16 f).toList.length = 16 * 1 := by rw [Array.length_toList, rC_size]
  have hnw : ∀ j u, (rC 16 f).toList[j]? = some u → w1.cell? ((⟨g, 0, none⟩ : Addr).add j) = some u := fun j u hj => by
    have hj16 : j < 16 := by have := (List.getElem?_eq_some_iff.1 hj).1; rw [Array.length_toList, rC_size] at this; exact this
    rw [RB.row HG.out j hj16, ← hj, Array.getElem?_toList]
  have h1c : ∀ u ∈ (rC 16 f).toList, u.oneCell' = true := fun u hu => by
    have := rC_one 16 f
    rw [Array.all_eq_true_iff_forall_mem] at this
    exact this u (by simpa using hu)
  have HNW := hid_in hnw; have H1C := hid_in h1c; have HLN := hid_in hl
  have hbs : B ≤ w1.heap.size := by have := HB1.out.size; omega
  clear hnw h1c hl
  go_wp2_with (at_builtin; refine wpG elemB rfl (.tmp 12) (.tmp 13) rfl B v bs.length bs rfl HO.out ⟨g, 0, none⟩ 16 16 (rC 16 f).toList rfl HLN.out HNW.out H1C.out (by omega) hbs ?_; intro v3 w3 o3 g3 n3; obtain ⟨ao, n', cap, rfl, d1, f1, hb2⟩ := bFacts HK.out hne o3 g3; have O3 := hid_in o3; have G3 := hid_in g3; have hb2' := hid_in hb2; clear o3 g3 n3 hb2)
  go_ret2
  refine ⟨rfl, .inr ?_, ?_⟩
  · exact Lib.BuilderAt.put (T := 75) (e := 5) hB hb2'.out (bs' := bs ++ (rC 16 f).toList) (by have := O3.out; simpa [rC_size] using this) (by decide)
  · exact (HB1.out.grown G3.out (by have := HB1.out.size; omega) (fun k hk => (HO.out.lt k hk).1)).setCell (p := ⟨b, 1, none⟩) hB _
end Go.Proofs.Ytdbobeojbdcmdaa
