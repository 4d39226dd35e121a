/- Rules as lines, in the program, as contracts. The conditions stand at each theorem. -/
import Derived.Test.YtbimfhlmcdpnmaaDoorPutT
import Derived.Test.YtbimfhlmcdpnmaaDoorBldS
import Derived.Test.YtbimfhlmcdpnmaaDoorTai
namespace Go.LatT
open Go.RowKit
theorem wp_region_lat_tail2 {P : Program} {id : Nat} {Q : Exit → Act → World → Prop} {a : Act} {w wn : World} {l init : List Oper} {o2 o3 : Oper} (h0 : Below w.heap.size w wn) (hm : P.follows .mixedOrders = true)
    (hi : l.dropLast.dropLast = init) (h2 : l.dropLast.getLast? = some o2) (h3 : l.getLast? = some o3) (hB : tailsB init [o2, o3] = true)
    (h : Nonempty (Lat w) → (∀ (l : Lat w) (b o : Nat), b < w.heap.size → l.x.cell? ⟨b, o, none⟩ = w.cell? ⟨b, o, none⟩) →
      wpQuiet P init.toArray (fun w' => ∃ n : Lat w, w' = n.x) (fun a' => ∀ w', Below w.heap.size w w' → wpList P l.toArray Q [o2, o3] a' w') init a) : (Code.region id l.toArray true).wp P Q a wn := by
  have cut : ∀ (l : List Oper) (o : Oper), l.getLast? = some o → l = l.dropLast ++ [o] := fun l o ho => by
    have hne : l ≠ [] := by intro e; rw [e] at ho; cases ho
    rw [List.getLast?_eq_some_getLast hne] at ho
    rw [← Option.some.inj ho]; exact (List.dropLast_concat_getLast hne).symm
  have hl : l = init ++ [o2, o3] := by
    have c3 := cut l o3 h3
    have c2 := cut l.dropLast o2 h2
    rw [hi] at c2
    rw [c3, c2]
    simp
  rw [hl] at h ⊢
  exact wp_region_lat_tails h0 hm hB h
end Go.LatT
namespace Go.Proofs.YtbimfhlmcdpnmaaDoor
open Go.RowKit Go.LatT Go.BlockM Go.OpnT
set_option linter.unusedVariables false
set_option linter.unusedSimpArgs false
/-- Where the table of doings lies. -/
structure DG (W : World) (B p0 p1 : Nat) : Prop where
  lt : B < W.heap.size
  lt0 : p0 < W.heap.size
  lt1 : p1 < W.heap.size
  c1 : W.cell? ⟨B, 1, none⟩ = some (.func (.func 40) #[] #[.pointer (some ⟨p0, 0, none⟩)])
  c3 : W.cell? ⟨B, 3, none⟩ = some (.func (.func 40) #[] #[.pointer (some ⟨p1, 0, none⟩)])
  c5 : W.cell? ⟨B, 5, none⟩ = some (.func (.func 42) #[] #[])
  x0 : W.cell? ⟨p0, 0, none⟩ = some (.string ⟨#[100, 114, 111, 112]⟩)
  x1 : W.cell? ⟨p1, 0, none⟩ = some (.string ⟨#[112, 97, 115, 115]⟩)
theorem DG.later {W W' : World} {B p0 p1 : Nat} (h : DG W B p0 p1) (hb : Below W.heap.size W W') : DG W' B p0 p1 := by
  obtain ⟨hc, hf⟩ := bcell hb
  have hs := hb.size
  exact ⟨by have := h.lt; omega, by have := h.lt0; omega, by have := h.lt1; omega, (hc _ _ h.lt).trans h.c1, (hc _ _ h.lt).trans h.c3, (hc _ _ h.lt).trans h.c5, (hc _ _ h.lt0).trans h.x0, (hc _ _ h.lt1).trans h.x1⟩
set_option maxHeartbeats 600000 in
set_option maxRecDepth 100000 in
theorem doings2_any (w : World) :
    Calls Tryd.prog 18 #[] w fun e w' => ∃ B p0 p1, e = .returned (.slice (some ⟨B, 0, none⟩) 3 3) ∧ DG w' B p0 p1 ∧ Below w.heap.size w w' := by
  go_enter Tryd.func18, Tryd.ntmps18
  go_wp2
  go_ret
  exact ⟨_, w.heap.size, w.heap.size + 1 + 1, rfl, ⟨by simp, by simp; omega, by simp, by go_simp, by go_simp, by go_simp, by go_simp, by go_simp⟩, by go_grown⟩
set_option maxHeartbeats 600000 in
set_option maxRecDepth 100000 in
theorem plainWord (p : Nat) (t : Int) (s : ByteArray) (w : World) (hc : w.cell? ⟨p, 0, none⟩ = some (.string s)) : Calls Tryd.prog 40 #[.int .i64 t, .pointer (some ⟨p, 0, none⟩)] w fun e w' => e = .returned (.string s) ∧ Below w.heap.size w w' := by
  go_enter Tryd.func40, Tryd.ntmps40
  go_wp2
  go_ret
  exact ⟨rfl, Below.refl _ _⟩
set_option maxHeartbeats 600000 in
set_option maxRecDepth 100000 in
theorem guardWord (t : Int) (w : World) (t0 : 0 ≤ t) (t1 : t ≤ 3) (hp : Pow w) : Calls Tryd.prog 42 #[.int .i64 t] w fun e w' => e = .returned (.string ⟨([103, 117, 97, 114, 100] ++ decI t).toArray⟩) ∧ Below w.heap.size w w' := by
  have HP := hid_in hp
  have L := decI_len100 t0 (by omega)
  clear hp
  go_enter Tryd.func42, Tryd.ntmps42
  go_wp2_with fail
  refine (itoa_any t _ t0 (by omega) HP.out).mono ?_
  rintro e w1 ⟨rfl, hb1⟩
  go_wp2_with fail
  go_ret
  exact ⟨ret_str (by simp [bytes_append]), hb1⟩
end Go.Proofs.YtbimfhlmcdpnmaaDoor
