/- What is proved: the contracts of ErrA, ErrB, ErrC, UnfA, UnfB, SrcA, PkgA, PkgB, PkgC, one behind the other. The conditions stand at each theorem. -/
import Derived.Test.YtefmmopkikpnhaaGreatDoorProg
import Derived.Test.YtefmmopkikpnhaaGreatDoorGBas
import Derived.WalkKit
import Derived.LaidEql
import Derived.Stop.Asserts
import Derived.RowKitTokens
import Derived.WalkSpells
import Derived.WalkLawsBesides
import Derived.BigQuiet
import Derived.Handy
import Derived.Test.YtefmmopkikpnhaaGreatDoorGFrA
import Derived.Laws.Rows
import Derived.Deep.Heap
namespace Go.Proofs.YtefmmopkikpnhaaGreatDoor
open Go.RowKit Go.Extern.Stop Go.Stop Go.Extern Go.LatT
set_option linter.unusedVariables false
set_option linter.unusedSimpArgs false
theorem eP.type (a : Addr) (w : World) : (ReflectliteValue.methodAny (ReflectliteValue.valueError "reflectlite.Value.Type" 0) (fun t _ _ _ => ReflectliteType.toType t) #[.agg #[.pointer (some ⟨4, 103, none⟩), .pointer (some a), .int .u64 150]]).run Tryz.prog w
    = .ok (.iface 204 (.agg #[.pointer (some ⟨4, 103, none⟩)])) w := by kernel_rfl
theorem eP.kind (w : World) : ((ReflectliteType.abiMethod fun t => (fun a : Nat => Value.int IntKind.u8 (a : Int)) <$> Rtype.kind t) #[.pointer (some ⟨4, 103, none⟩)]).run Tryz.prog w = .ok (.int .u8 22) w := by kernel_rfl
theorem eU.kind (w : World) : ((ReflectliteType.abiMethod fun t => (fun a : Nat => Value.int IntKind.u8 (a : Int)) <$> Rtype.kind t) #[.pointer (some ⟨4, 97, none⟩)]).run Tryz.prog w = .ok (.int .u8 25) w := by kernel_rfl
theorem eM.kind (h : Value) (w : World) : (Go.method 355 204 (.agg #[h]) "Kind").run Tryz.prog w = .ok (205, h) w := by kernel_rfl
theorem eM.elem (h : Value) (w : World) : (Go.method 355 204 (.agg #[h]) "Elem").run Tryz.prog w = .ok (217, .agg #[h]) w := by kernel_rfl
theorem eM.impl (h : Value) (w : World) : (Go.method 355 204 (.agg #[h]) "Implements").run Tryz.prog w = .ok (218, .agg #[h]) w := by kernel_rfl
theorem eM.assign (h : Value) (w : World) : (Go.method 355 204 (.agg #[h]) "AssignableTo").run Tryz.prog w = .ok (215, .agg #[h]) w := by kernel_rfl
theorem eP.elem (w : World) : (ReflectliteType.method ReflectliteType.elem #[.agg #[.pointer (some ⟨4, 103, none⟩)]]).run Tryz.prog w = .ok (.iface 204 (.agg #[.pointer (some ⟨4, 97, none⟩)])) w := by kernel_rfl
theorem eU.implements (w : World) : (ReflectliteType.relation "Implements" ReflectliteType.implements_ #[.agg #[.pointer (some ⟨4, 97, none⟩)], .iface 204 (.agg #[.pointer (some ⟨4, 63, none⟩)])]).run Tryz.prog w = .ok (.bool true) w := by kernel_rfl
theorem eU.assignable (w : World) : (ReflectliteType.relation "AssignableTo" ReflectliteType.assignableTo #[.agg #[.pointer (some ⟨4, 97, none⟩)], .iface 204 (.agg #[.pointer (some ⟨4, 97, none⟩)])]).run Tryz.prog w = .ok (.bool true) w := by kernel_rfl
theorem eU.mk (p : Addr) (w : World) : (ReflectliteValue.mk 97 p ReflectliteValue.flagAddr).run Tryz.prog w = .ok (.agg #[.pointer (some ⟨4, 97, none⟩), .pointer (some p), .int .u64 409]) w := by kernel_rfl
theorem eP.parts (a : Addr) (w : World) : (ReflectliteValue.parts (.agg #[.pointer (some ⟨4, 103, none⟩), .pointer (some a), .int .u64 150])).run Tryz.prog w = .ok (some (103, a, 150)) w := by kernel_rfl
theorem rls (v x : Value) : ReflectliteValue.set #[v, x] = (do
    let (some (dst, a, fl), some (src, b, _)) := (← ReflectliteValue.parts v, ← ReflectliteValue.parts x)
      | unsupported (.noEntry "extern/(internal/reflectlite.Value).Set.zeroValue")
    if fl / ReflectliteValue.flagAddr % 2 == 0 then unsupported (.noEntry "extern/(internal/reflectlite.Value).Set.unaddressable")
    let val ← loadVar src b
    if ← Rtype.directlyAssignable dst src then storeVar dst a val
    else if ← Rtype.implements dst src then
      if (← Rtype.kind src) == 20 then
        match val with
        | .nilIface => unsupported (.noEntry "extern/reflectlite: a nil value of one interface type handed on as a value of another")
        | _ => storeVar dst a val
      else storeVar dst a (.iface src val)
    else panicString ("reflectlite.Set: value of type " ++ (← Rtype.spelt src) ++ " is not assignable to type " ++ (← Rtype.spelt dst))
    pure (.tuple #[])) := rfl
theorem eU.partsA (a : Addr) (w : World) : (ReflectliteValue.parts (.agg #[.pointer (some ⟨4, 97, none⟩), .pointer (some a), .int .u64 409])).run Tryz.prog w = .ok (some (97, a, 409)) w := by kernel_rfl
theorem eU.parts (a : Addr) (w : World) : (ReflectliteValue.parts (.agg #[.pointer (some ⟨4, 97, none⟩), .pointer (some a), .int .u64 153])).run Tryz.prog w = .ok (some (97, a, 153)) w := by kernel_rfl
theorem eU.direct (w : World) : (Rtype.directlyAssignable 97 97).run Tryz.prog w = .ok true w := by kernel_rfl
theorem eU.size (w : World) : (sizeOf 97).run Tryz.prog w = .ok 1 w := by kernel_rfl
theorem eU.agg (w : World) : (isAgg 97).run Tryz.prog w = .ok true w := by kernel_rfl
theorem eU.set (ta b : Addr) (x : ByteArray) (old : Value) (W : World) (hb : W.cell? b = some (.string x)) (ht : W.cell? ta = some old) (hf : W.frozen? ta = false) :
    (ReflectliteValue.set #[.agg #[.pointer (some ⟨4, 97, none⟩), .pointer (some ta), .int .u64 409], .agg #[.pointer (some ⟨4, 97, none⟩), .pointer (some b), .int .u64 153]]).run Tryz.prog W
      = .ok (.tuple #[]) (W.setCell ta (.string x)) := by
  rw [rls]
  simp only [Sem.run_bind, eU.partsA, eU.parts, Result.andThen]
  simp [ReflectliteValue.flagAddr, loadVar, eU.agg, eU.size, loadCells, loadCellsFrom, underlying, Tryz.underlying97, hb, Result.andThen, eU.direct, storeVar, Value.cells, storeCells, Addr.add]
  rw [run_store Tryz.prog W ta _ _ (by rfl)]
  simp [ht, hf]
end Go.Proofs.YtefmmopkikpnhaaGreatDoor

namespace Go.Proofs.YtefmmopkikpnhaaGreatDoor
open Go.RowKit Go.Extern.Stop Go.Stop Go.Extern Go.LatT
set_option linter.unusedVariables false
set_option linter.unusedSimpArgs false
end Go.Proofs.YtefmmopkikpnhaaGreatDoor

namespace Go.Proofs.YtefmmopkikpnhaaGreatDoor
open Go.RowKit Go.LatT
set_option linter.unusedVariables false
set_option linter.unusedSimpArgs false
/-- The variable of package errors that As reads. -/
def ErrT (w : World) : Prop := w.cell? ⟨0, 0, none⟩ = some (.iface 204 (.agg #[.pointer (some ⟨4, 63, none⟩)]))
theorem cell_lt' {w : World} {b o : Nat} {v : Value} (h : w.cell? ⟨b, o, none⟩ = some v) : b < w.heap.size := by
  rcases Nat.lt_or_ge b w.heap.size with h0 | h0
  · exact h0
  · simp [World.cell?, Array.getElem?_eq_none h0] at h
theorem ErrT.later {w w' : World} (h : ErrT w) (hb : Below w.heap.size w w') : ErrT w' := ((bcell hb).1 _ _ (cell_lt' h)).trans h
end Go.Proofs.YtefmmopkikpnhaaGreatDoor

namespace Go.Proofs.YtefmmopkikpnhaaGreatDoor
open Go.RowKit Go.LatT Go.BlockM Go.PlainAid Go.OpnT Go.ApdG Go.BytM
set_option linter.unusedVariables false
set_option linter.unusedSimpArgs false
theorem sclone_any (s : ByteArray) (w : World) (h : s.size ≤ 1048576) :
    Calls Tryz.prog 116 #[.string s] w fun e w' => e = .returned (.string s) ∧ Below w.heap.size w w' := by
  go_enter Tryz.func116, Tryz.ntmps116
  go_wp2_with fail
  refine (Tryz.stringslite_Clone s _ (by omega)).mono ?_
  rintro e w1 ⟨rfl, hb1⟩
  go_wp2_with fail
  go_ret
  exact ⟨rfl, hb1⟩
end Go.Proofs.YtefmmopkikpnhaaGreatDoor

namespace Go.Proofs.YtefmmopkikpnhaaGreatDoor
open Go.RowKit Go.LatT Go.BlockM Go.PlainAid Go.OpnT Go.ApdG Go.BytM
set_option linter.unusedVariables false
set_option linter.unusedSimpArgs false
end Go.Proofs.YtefmmopkikpnhaaGreatDoor

namespace Go.Proofs.YtefmmopkikpnhaaGreatDoor
open Go.RowKit Go.LatT Go.BlockM Go.PlainAid Go.OpnT Go.RegE Go.ApdG Go.BytM
set_option linter.unusedVariables false
set_option linter.unusedSimpArgs false
/-- A source lies in a block. -/
structure Sat (w : World) (g : Nat) (r : ByteArray) (v : Value) : Prop where
  lt : g < w.heap.size
  c0 : w.cell? ⟨g, 0, none⟩ = some (.string r)
  c1 : w.cell? ⟨g, 1, none⟩ = some v
  f : ∀ o, w.frozen? ⟨g, o, none⟩ = false
theorem Sat.later {w w' : World} {g : Nat} {r : ByteArray} {v : Value} (h : Sat w g r v) (hb : Below w.heap.size w w') : Sat w' g r v :=
  ⟨Nat.lt_of_lt_of_le h.lt hb.size, ((bcell hb).1 _ _ h.lt).trans h.c0, ((bcell hb).1 _ _ h.lt).trans h.c1, fun o => ((bcell hb).2 _ o h.lt).trans (h.f o)⟩
theorem Sat.mv {w w' : World} {g R : Nat} {r : ByteArray} {v : Value} (h : Sat w g r v) (m : Mv R w w') (hg : g ≠ R) : Sat w' g r v :=
  ⟨Nat.lt_of_lt_of_le h.lt m.size, (m.cell _ _ h.lt hg).trans h.c0, (m.cell _ _ h.lt hg).trans h.c1, fun o => (m.frozen _ o h.lt hg).trans (h.f o)⟩
theorem Sat.new (w : World) (r : ByteArray) (v : Value) (ty : TypeId) : Sat (w.alloc (.cells #[.string r, v] ty)) w.heap.size r v := ⟨by simp, by go_simp, by go_simp, fun o => by go_simp⟩
theorem Sat.set1 {w : World} {g : Nat} {r : ByteArray} {v : Value} (v' : Value) (h : Sat w g r v) : Sat (w.setCell ⟨g, 1, none⟩ v') g r v' := by
  obtain ⟨l0, p0, p1, pf⟩ := h
  exact ⟨by simpa using l0, by go_simp, by go_simp, fun o => by go_simp⟩
theorem Mv.setg (R o : Nat) (w : World) (v : Value) : Mv R w (w.setCell ⟨R, o, none⟩ v) :=
  ⟨rfl, rfl, rfl, by simp, fun k hk hne => heap_setCell_other w ⟨R, o, none⟩ k v (fun e => hne e)⟩
/-- A piece was read, or it failed. -/
def Pc (n : Nat) (r r' : ByteArray) (b b' : Bool) (x : ByteArray) : Prop := (n ≤ r.size ∧ b' = b ∧ r' = r.extract n r.size ∧ x = r.extract 0 n) ∨ (r.size < n ∧ b' = true ∧ r' = r ∧ x = ⟨#[]⟩)
theorem Pc.size {n : Nat} {r r' x : ByteArray} {b b' : Bool} (h : Pc n r r' b b' x) : r'.size ≤ r.size ∧ x.size ≤ r.size ∧ x.size ≤ n := by
  rcases h with ⟨h, _, rfl, rfl⟩ | ⟨h, _, rfl, rfl⟩
  · simp only [ByteArray.size_extract]; omega
  · exact ⟨Nat.le_refl _, Nat.zero_le _, Nat.zero_le _⟩
end Go.Proofs.YtefmmopkikpnhaaGreatDoor

namespace Go.Proofs.YtefmmopkikpnhaaGreatDoor
open Go.RowKit Go.LatT Go.BlockM Go.PlainAid Go.OpnT Go.RegE Go.ApdG Go.BytM
set_option linter.unusedVariables false
set_option linter.unusedSimpArgs false
theorem PBox.mv {w w' : World} {g R : Nat} {f t p : Int} {s : ByteArray} (h : PBox w g f t p s) (m : Mv R w w') (hg : g ≠ R) : PBox w' g f t p s :=
  have q := fun o => m.cell g o h.lt hg
  ⟨Nat.lt_of_lt_of_le h.lt m.size, (q _).trans h.c0, (q _).trans h.c1, (q _).trans h.c2, (q _).trans h.c3⟩
/-- A packet lies in a block that may be written. -/
structure PBf (w : World) (g : Nat) (f t p : Int) (s : ByteArray) : Prop where
  lt : g < w.heap.size
  c0 : w.cell? ⟨g, 0, none⟩ = some (.int .i64 f)
  c1 : w.cell? ⟨g, 1, none⟩ = some (.int .i64 t)
  c2 : w.cell? ⟨g, 2, none⟩ = some (.int .i64 p)
  c3 : w.cell? ⟨g, 3, none⟩ = some (.string s)
  fz : ∀ o, w.frozen? ⟨g, o, none⟩ = false
section
variable {w w' : World} {g R : Nat} {f t p : Int} {s : ByteArray}
theorem PBf.mv (h : PBf w g f t p s) (m : Mv R w w') (hg : g ≠ R) : PBf w' g f t p s :=
  have q := fun o => m.cell g o h.lt hg
  ⟨Nat.lt_of_lt_of_le h.lt m.size, (q _).trans h.c0, (q _).trans h.c1, (q _).trans h.c2, (q _).trans h.c3, fun o => (m.frozen g o h.lt hg).trans (h.fz o)⟩
theorem PBf.later (h : PBf w g f t p s) (hb : Below w.heap.size w w') : PBf w' g f t p s :=
  have q := fun o => (bcell hb).1 g o h.lt
  ⟨Nat.lt_of_lt_of_le h.lt hb.size, (q _).trans h.c0, (q _).trans h.c1, (q _).trans h.c2, (q _).trans h.c3, fun o => ((bcell hb).2 g o h.lt).trans (h.fz o)⟩
theorem PBf.new (w : World) (f t p : Int) (s : ByteArray) (ty : TypeId) : PBf (w.alloc (.cells #[.int .i64 f, .int .i64 t, .int .i64 p, .string s] ty)) w.heap.size f t p s := ⟨by simp, by go_simp, by go_simp, by go_simp, by go_simp, fun o => by go_simp⟩
theorem PBf.set1 (f' : Int) (h : PBf w g f t p s) : PBf (w.setCell ⟨g, 1, none⟩ (.int .i64 f')) g f f' p s := by
  obtain ⟨l0, p0, p1, p2, p3, pf⟩ := h
  exact ⟨by simpa using l0, by go_simp, by go_simp, by go_simp, by go_simp, fun o => by go_simp⟩
theorem PBf.set2 (f' : Int) (h : PBf w g f t p s) : PBf (w.setCell ⟨g, 2, none⟩ (.int .i64 f')) g f t f' s := by
  obtain ⟨l0, p0, p1, p2, p3, pf⟩ := h
  exact ⟨by simpa using l0, by go_simp, by go_simp, by go_simp, by go_simp, fun o => by go_simp⟩
theorem PBf.set3 (f' : ByteArray) (h : PBf w g f t p s) : PBf (w.setCell ⟨g, 3, none⟩ (.string f')) g f t p f' := by
  obtain ⟨l0, p0, p1, p2, p3, pf⟩ := h
  exact ⟨by simpa using l0, by go_simp, by go_simp, by go_simp, by go_simp, fun o => by go_simp⟩
end
/-- What lies where while a packet is read. -/
structure RdS (w W : World) (gs gp : Nat) (r : ByteArray) (v : Value) (f t p : Int) (s : ByteArray) : Prop where
  sat : Sat W gs r v
  pk : PBf W gp f t p s
  res : PBf W w.heap.size 0 0 0 ⟨#[]⟩
  bel : Below w.heap.size w W
  n1 : gs ≠ gp
  n2 : gs ≠ w.heap.size
  n3 : gp ≠ w.heap.size
  n4 : w.heap.size ≤ gs
  n5 : w.heap.size ≤ gp
section
variable {w W W' : World} {gs gp : Nat} {r r' : ByteArray} {v v' : Value} {f t p : Int} {s : ByteArray}
theorem RdS.read (h : RdS w W gs gp r v f t p s) (m : Mv gs W W') (h' : Sat W' gs r' v') : RdS w W' gs gp r' v' f t p s :=
  ⟨h', h.pk.mv m (Ne.symm h.n1), h.res.mv m (Ne.symm h.n2), h.bel.trans (m.below h.bel.size h.n4), h.n1, h.n2, h.n3, h.n4, h.n5⟩
theorem RdS.later (h : RdS w W gs gp r v f t p s) (hb : Below W.heap.size W W') : RdS w W' gs gp r v f t p s :=
  ⟨h.sat.later hb, h.pk.later hb, h.res.later hb, below_later h.bel hb, h.n1, h.n2, h.n3, h.n4, h.n5⟩
theorem RdS.put (h : RdS w W gs gp r v f t p s) (o : Nat) (u : Value) {f' t' p' : Int} {s' : ByteArray} (h' : PBf (W.setCell ⟨gp, o, none⟩ u) gp f' t' p' s') : RdS w (W.setCell ⟨gp, o, none⟩ u) gs gp r v f' t' p' s' :=
  ⟨h.sat.mv (Mv.setg gp o W u) h.n1, h', h.res.mv (Mv.setg gp o W u) (Ne.symm h.n3), h.bel.setCell h.n5 _, h.n1, h.n2, h.n3, h.n4, h.n5⟩
end
theorem RdS.new (w : World) (x : ByteArray) (t1 t2 t3 : TypeId) :
    RdS w (((w.alloc (.cells #[.int .i64 0, .int .i64 0, .int .i64 0, .string ⟨#[]⟩] t1)).alloc (.cells #[.string x, .nilIface] t2)).alloc (.cells #[.int .i64 0, .int .i64 0, .int .i64 0, .string ⟨#[]⟩] t3)) (w.heap.size + 1) (w.heap.size + 1 + 1) x .nilIface 0 0 0 ⟨#[]⟩ := by
  refine ⟨?_, ?_, ?_, by go_grown, by omega, by omega, by omega, by omega, by omega⟩
  · have h := Sat.new (w.alloc (.cells #[.int .i64 0, .int .i64 0, .int .i64 0, .string ⟨#[]⟩] t1)) x .nilIface t2
    have := h.later (below_box _ (.cells #[.int .i64 0, .int .i64 0, .int .i64 0, .string ⟨#[]⟩] t3))
    simpa using this
  · have h := PBf.new ((w.alloc (.cells #[.int .i64 0, .int .i64 0, .int .i64 0, .string ⟨#[]⟩] t1)).alloc (.cells #[.string x, .nilIface] t2)) 0 0 0 ⟨#[]⟩ t3
    simpa using h
  · exact ((PBf.new w 0 0 0 ⟨#[]⟩ t1).later (below_box _ _)).later (below_box _ _)
end Go.Proofs.YtefmmopkikpnhaaGreatDoor

namespace Go.Proofs.YtefmmopkikpnhaaGreatDoor
open Go.RowKit Go.LatT Go.BlockM Go.PlainAid Go.OpnT Go.RegE Go.ApdG Go.BytM
set_option linter.unusedVariables false
set_option linter.unusedSimpArgs false
theorem Pc.keep {n : Nat} {r r' s : ByteArray} {b b' : Bool} (h : Pc n r r' b b' s) (hb : b' = false) : n ≤ r.size ∧ b = false := by
  rcases h with ⟨h1, h2, _⟩ | ⟨_, h2, _⟩
  · exact ⟨h1, by rw [← h2, hb]⟩
  · rw [h2] at hb; cases hb
end Go.Proofs.YtefmmopkikpnhaaGreatDoor

namespace Go.Proofs.YtefmmopkikpnhaaGreatDoor
open Go.RowKit Go.LatT Go.BlockM Go.PlainAid Go.OpnT Go.RegE Go.ApdG Go.BytM
set_option linter.unusedVariables false
set_option linter.unusedSimpArgs false
end Go.Proofs.YtefmmopkikpnhaaGreatDoor

