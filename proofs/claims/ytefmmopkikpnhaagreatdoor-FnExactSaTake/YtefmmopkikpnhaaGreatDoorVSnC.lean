/- What is proved: the contracts of SndC, one behind the other. The conditions stand at each theorem. -/
import Derived.Test.YtefmmopkikpnhaaGreatDoorVSnA
namespace Go.Proofs.YtefmmopkikpnhaaGreatDoor
open Go.RowKit Go.LatT Go.BlockM Go.PlainAid Go.OpnT Go.ApdG Go.BytM Go.AesM Go.RowQ Go.WinMath
set_option linter.unusedVariables false
set_option linter.unusedSimpArgs false
theorem SaBox.grown {w w' : World} {g : Nat} {x : SaV} {v : Value} {row : Option Nat} (h : SaBox w g x v) (hg : w.grownBy w' row) (hr : row ≠ some g) : SaBox w' g x v :=
  have q := fun o => (grown_cells hg g o h.lt hr)
  ⟨Nat.lt_of_lt_of_le h.lt hg.size, by rw [(q 0).1]; exact h.c0, by rw [(q 1).1]; exact h.c1, by rw [(q 2).1]; exact h.c2, by rw [(q 3).1]; exact h.c3, by rw [(q 4).1]; exact h.c4, by rw [(q 5).1]; exact h.c5, by rw [(q 6).1]; exact h.c6, by rw [(q 7).1]; exact h.c7, by rw [(q 8).1]; exact h.c8, by rw [(q 9).1]; exact h.c9, by rw [(q 10).1]; exact h.c10, fun o => (q o).2.trans (h.f o)⟩
theorem eqSv_any (x : SaV) (v1 v2 : Value) (L : List Int) (w : World) (h1 : IL w v1 L) (h2 : IL w v2 L) (hl : L.length ≤ 1048576) :
    Calls Tryz.prog 28 #[vSv x v1, vSv x v2] w fun e w' => e = .returned (.bool true) ∧ Below w.heap.size w w' := by
  obtain ⟨a1, c1, rfl, i1⟩ := h1.ints
  obtain ⟨a2, c2, rfl, i2⟩ := h2.ints
  exact eqSa_self x a1 a2 L.length c1 c2 (gE L) w i1 i2 hl
set_option maxHeartbeats 1000000 in
set_option maxRecDepth 100000 in
theorem markSa_any (x : SaV) (base : Nat) (v : Value) (L : List Int) (k : Int) (w : World) (ho : w.ownsRow base 3 1 v L.length (i64s L)) (hl : L.length ≤ 1048576) (h0 : 0 ≤ k) (h1 : k ≤ 1048576) :
    Calls Tryz.prog 29 #[vSv x v, .int .i64 k] w fun e w' => e = .returned (.int .i64 (k + L.length)) ∧ w'.ownsRow base 3 1 v L.length (i64s (upFrom k L.length)) ∧ w.grownBy w' v.ownBlock := by
  have HO := hid_in ho
  obtain ⟨a, c, rfl⟩ := owns_form ho
  clear ho
  go_enter Tryz.func29, Tryz.ntmps29
  go_wp2_with fail
  refine (markW_any x.top base _ L k _ (HO.out.alloc _) hl h0 h1).mono ?_
  rintro e w1 ⟨rfl, o1, g1⟩
  have O := hid_in o1; have G := hid_in (grown_box g1)
  clear o1 g1
  go_wp2_with fail
  go_ret
  exact ⟨rfl, O.out, G.out⟩
set_option maxHeartbeats 1000000 in
set_option maxRecDepth 100000 in
theorem heldSa_any (x : SaV) (base : Nat) (v : Value) (n : Nat) (k : Int) (w : World) (ho : w.ownsRow base 3 1 v n (i64s (upFrom k n))) (hl : n ≤ 1048576) (h0 : 0 ≤ k) (h1 : k ≤ 1048576) :
    Calls Tryz.prog 30 #[vSv x v, .int .i64 k] w fun e w' => e = .returned (.int .i64 (k + n)) ∧ Below w.heap.size w w' := by
  have HO := hid_in ho
  obtain ⟨a, c, rfl⟩ := owns_form ho
  have hk : decide (k + (n : Int) < 0) = false := by simp; omega
  clear ho
  go_enter Tryz.func30, Tryz.ntmps30
  go_wp2_with fail
  refine (heldW_any x.top base _ n k _ (HO.out.alloc _) hl h0 h1).mono ?_
  rintro e w1 ⟨rfl, hb1⟩
  have B := hid_in (below_later (below_box w _) hb1)
  clear hb1
  go_wp2_with fail
  go_ret
  exact ⟨rfl, B.out⟩
/-- What lies where, while the answers are held against each other. -/
structure SSt (w : World) (x X : SaV) (aV sv gv xv : Value) (L' GL XL : List Int) (B D H G b0 b1 b2 : Nat) (y : World) : Prop where
  z : Below w.heap.size w y
  a : SaBox y B x aV
  d : SaBox y D X sv
  bx : SaBox y H x xv
  g : SaBox y G X gv
  os : y.ownsRow b0 3 1 sv L'.length (i64s L')
  og : y.ownsRow b1 3 1 gv GL.length (i64s GL)
  ox : y.ownsRow b2 3 1 xv XL.length (i64s XL)
theorem SSt.later {w y y' : World} {x X : SaV} {aV sv gv xv : Value} {L' GL XL : List Int} {B D H G b0 b1 b2 : Nat} (h : SSt w x X aV sv gv xv L' GL XL B D H G b0 b1 b2 y) (hb : Below y.heap.size y y') : SSt w x X aV sv gv xv L' GL XL B D H G b0 b1 b2 y' :=
  ⟨below_later h.z hb, h.a.later hb, h.d.later hb, h.bx.later hb, h.g.later hb, owns_below h.os hb, owns_below h.og hb, owns_below h.ox hb⟩
theorem SSt.drew {w y : World} {x X : SaV} {aV sv gv xv : Value} {L' GL XL : List Int} {B D H G b0 b1 b2 : Nat} (h : SSt w x X aV sv gv xv L' GL XL B D H G b0 b1 b2 y) : SSt w x X aV sv gv xv L' GL XL B D H G b0 b1 b2 y.drew :=
  ⟨h.z.drew, h.a.drew, h.d.drew, h.bx.drew, h.g.drew, h.os, h.og, h.ox⟩
theorem SSt.markX {w y y' : World} {x X : SaV} {aV sv gv xv : Value} {L' GL XL XL' : List Int} {B D H G b0 b1 b2 : Nat} (h : SSt w x X aV sv gv xv L' GL XL B D H G b0 b1 b2 y) (hg : y.grownBy y' xv.ownBlock) (ho : y'.ownsRow b2 3 1 xv XL'.length (i64s XL'))
    (hw : w.heap.size ≤ b2) (hn : ∀ k, xv.ownBlock = some k → k ≠ B ∧ k ≠ D ∧ k ≠ H ∧ k ≠ G ∧ sv.ownBlock ≠ some k ∧ gv.ownBlock ≠ some k) : SSt w x X aV sv gv xv L' GL XL' B D H G b0 b1 b2 y' := by
  have z := Below.grown h.z hg h.z.size (fun k hk => Nat.le_trans hw (owns_own h.ox k hk).1)
  refine ⟨z, h.a.grown hg (fun e => (hn _ e).1 rfl), h.d.grown hg (fun e => (hn _ e).2.1 rfl), h.bx.grown hg (fun e => (hn _ e).2.2.1 rfl), h.g.grown hg (fun e => (hn _ e).2.2.2.1 rfl), h.os.kept hg ?_, h.og.kept hg ?_, ho⟩
  · cases e : sv.ownBlock with
    | none => exact .inl rfl
    | some k => exact .inr (fun e2 => (hn k e2.symm).2.2.2.2.1 e)
  · cases e : gv.ownBlock with
    | none => exact .inl rfl
    | some k => exact .inr (fun e2 => (hn k e2.symm).2.2.2.2.2 e)
theorem SSt.markG {w y y' : World} {x X : SaV} {aV sv gv xv : Value} {L' GL GL' XL : List Int} {B D H G b0 b1 b2 : Nat} (h : SSt w x X aV sv gv xv L' GL XL B D H G b0 b1 b2 y) (hg : y.grownBy y' gv.ownBlock) (ho : y'.ownsRow b1 3 1 gv GL'.length (i64s GL'))
    (hw : w.heap.size ≤ b1) (hn : ∀ k, gv.ownBlock = some k → k ≠ B ∧ k ≠ D ∧ k ≠ H ∧ k ≠ G ∧ sv.ownBlock ≠ some k ∧ xv.ownBlock ≠ some k) : SSt w x X aV sv gv xv L' GL' XL B D H G b0 b1 b2 y' := by
  have z := Below.grown h.z hg h.z.size (fun k hk => Nat.le_trans hw (owns_own h.og k hk).1)
  refine ⟨z, h.a.grown hg (fun e => (hn _ e).1 rfl), h.d.grown hg (fun e => (hn _ e).2.1 rfl), h.bx.grown hg (fun e => (hn _ e).2.2.1 rfl), h.g.grown hg (fun e => (hn _ e).2.2.2.1 rfl), h.os.kept hg ?_, ho, h.ox.kept hg ?_⟩
  · cases e : sv.ownBlock with
    | none => exact .inl rfl
    | some k => exact .inr (fun e2 => (hn k e2.symm).2.2.2.2.1 e)
  · cases e : xv.ownBlock with
    | none => exact .inl rfl
    | some k => exact .inr (fun e2 => (hn k e2.symm).2.2.2.2.2 e)
end Go.Proofs.YtefmmopkikpnhaaGreatDoor

