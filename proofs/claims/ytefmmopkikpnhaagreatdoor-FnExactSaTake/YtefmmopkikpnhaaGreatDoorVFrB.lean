/- What is proved: the contracts of ErrA, ErrB, ErrC, UnfA, UnfB, SrcA, PkgA, PkgB, PkgC, one behind the other. The conditions stand at each theorem. -/
import Derived.Test.YtefmmopkikpnhaaGreatDoorProg
import Derived.Test.YtefmmopkikpnhaaGreatDoorVBas
import Derived.WalkKit
import Derived.LaidEql
import Derived.Stop.Asserts
import Derived.RowKitTokens
import Derived.WalkSpells
import Derived.WalkLawsBesides
import Derived.BigQuiet
import Derived.Handy
import Derived.Test.YtefmmopkikpnhaaGreatDoorVFrA
import Derived.Laws.Rows
import Derived.Deep.Heap
namespace Go.Proofs.YtefmmopkikpnhaaGreatDoor
open Go.RowKit Go.Extern.Stop Go.Stop Go.Extern Go.LatT
set_option linter.unusedVariables false
set_option linter.unusedSimpArgs false
theorem as_nil (t : Value) (w : World) :
    Calls Tryz.prog 89 #[.nilIface, t] w fun e w' => e = .returned (.bool false) ∧ w' = w := by
  go_enter Tryz.func89, Tryz.ntmps89
  go_wp2
  go_ret
  exact ⟨rfl, rfl⟩
theorem eP.valueOf (t : Addr) (w : World) : (ReflectliteValue.unpack (.iface 103 (.pointer (some t)))).run Tryz.prog w
    = .ok (.agg #[.pointer (some ⟨4, 103, none⟩), .pointer (some ⟨w.heap.size, 0, none⟩), .int .u64 150]) (w.alloc (.cells #[.pointer (some t)] 103)) := by kernel_rfl
theorem eP.type (a : Addr) (w : World) : (ReflectliteValue.methodAny (ReflectliteValue.valueError "reflectlite.Value.Type" 0) (fun t _ _ _ => ReflectliteType.toType t) #[.agg #[.pointer (some ⟨4, 103, none⟩), .pointer (some a), .int .u64 150]]).run Tryz.prog w
    = .ok (.iface 204 (.agg #[.pointer (some ⟨4, 103, none⟩)])) w := by kernel_rfl
theorem eP.kind (w : World) : ((ReflectliteType.abiMethod fun t => (fun a : Nat => Value.int IntKind.u8 (a : Int)) <$> Rtype.kind t) #[.pointer (some ⟨4, 103, none⟩)]).run Tryz.prog w = .ok (.int .u8 22) w := by kernel_rfl
theorem eU.kind (w : World) : ((ReflectliteType.abiMethod fun t => (fun a : Nat => Value.int IntKind.u8 (a : Int)) <$> Rtype.kind t) #[.pointer (some ⟨4, 97, none⟩)]).run Tryz.prog w = .ok (.int .u8 25) w := by kernel_rfl
theorem eM.kind (h : Value) (w : World) : (Go.method 355 204 (.agg #[h]) "Kind").run Tryz.prog w = .ok (205, h) w := by kernel_rfl
theorem eM.elem (h : Value) (w : World) : (Go.method 355 204 (.agg #[h]) "Elem").run Tryz.prog w = .ok (217, .agg #[h]) w := by kernel_rfl
theorem eM.impl (h : Value) (w : World) : (Go.method 355 204 (.agg #[h]) "Implements").run Tryz.prog w = .ok (218, .agg #[h]) w := by kernel_rfl
theorem eM.assign (h : Value) (w : World) : (Go.method 355 204 (.agg #[h]) "AssignableTo").run Tryz.prog w = .ok (215, .agg #[h]) w := by kernel_rfl
theorem eP.elem (w : World) : (ReflectliteType.method ReflectliteType.elem #[.agg #[.pointer (some ⟨4, 103, none⟩)]]).run Tryz.prog w = .ok (.iface 204 (.agg #[.pointer (some ⟨4, 97, none⟩)])) w := by kernel_rfl
theorem eU.implements (w : World) : (ReflectliteType.relation "Implements" ReflectliteType.implements_ #[.agg #[.pointer (some ⟨4, 97, none⟩)], .iface 204 (.agg #[.pointer (some ⟨4, 63, none⟩)])]).run Tryz.prog w = .ok (.bool true) w := by kernel_rfl
theorem eU.typeOf (v : Value) (w : World) : (ReflectliteType.typeOf #[.iface 97 v]).run Tryz.prog w = .ok (.iface 204 (.agg #[.pointer (some ⟨4, 97, none⟩)])) w := by kernel_rfl
theorem eU.assignable (w : World) : (ReflectliteType.relation "AssignableTo" ReflectliteType.assignableTo #[.agg #[.pointer (some ⟨4, 97, none⟩)], .iface 204 (.agg #[.pointer (some ⟨4, 97, none⟩)])]).run Tryz.prog w = .ok (.bool true) w := by kernel_rfl
theorem eU.valueOf (s : Value) (w : World) : (ReflectliteValue.unpack (.iface 97 (.agg #[s]))).run Tryz.prog w
    = .ok (.agg #[.pointer (some ⟨4, 97, none⟩), .pointer (some ⟨w.heap.size, 0, none⟩), .int .u64 153]) (w.alloc (.cells #[s] 97)) := by kernel_rfl
theorem eP.elemOf (w : World) : (Rtype.elem? 103).run Tryz.prog w = .ok (some 97) w := by kernel_rfl
theorem eU.mk (p : Addr) (w : World) : (ReflectliteValue.mk 97 p ReflectliteValue.flagAddr).run Tryz.prog w = .ok (.agg #[.pointer (some ⟨4, 97, none⟩), .pointer (some p), .int .u64 409]) w := by kernel_rfl
theorem rlm (z : Sem Value) (f : TypeId → Addr → Nat → Nat → Sem Value) (v : Value) :
    ReflectliteValue.method z f #[v] = (do match ← ReflectliteValue.parts v with | none => z | some (t, a, fl) => f t a fl (fl % 32)) := rfl
theorem eP.parts (a : Addr) (w : World) : (ReflectliteValue.parts (.agg #[.pointer (some ⟨4, 103, none⟩), .pointer (some a), .int .u64 150])).run Tryz.prog w = .ok (some (103, a, 150)) w := by kernel_rfl
theorem eP.isNil (a p : Addr) (W : World) (ha : W.cell? a = some (.pointer (some p))) :
    (ReflectliteValue.method (ReflectliteValue.valueError "reflectlite.Value.IsNil" 0) ReflectliteValue.isNil #[.agg #[.pointer (some ⟨4, 103, none⟩), .pointer (some a), .int .u64 150]]).run Tryz.prog W = .ok (.bool false) W := by
  rw [rlm]
  simp only [Sem.run_bind, eP.parts, Result.andThen]
  simp [ReflectliteValue.isNil, loadVar, isAgg, underlying, Tryz.underlying103, ha, Result.andThen]
theorem eP.elemV (a p : Addr) (W : World) (ha : W.cell? a = some (.pointer (some p))) :
    (ReflectliteValue.method (ReflectliteValue.valueError "reflectlite.Value.Elem" 0) ReflectliteValue.elem #[.agg #[.pointer (some ⟨4, 103, none⟩), .pointer (some a), .int .u64 150]]).run Tryz.prog W
      = .ok (.agg #[.pointer (some ⟨4, 97, none⟩), .pointer (some p), .int .u64 409]) W := by
  rw [rlm]
  simp only [Sem.run_bind, eP.parts, Result.andThen]
  simp [ReflectliteValue.elem, loadVar, isAgg, underlying, Tryz.underlying103, ha, Result.andThen, eP.elemOf, eU.mk]
theorem rls (v x : Value) : ReflectliteValue.set #[v, x] = (do
    let (some (dst, a, fl), some (src, b, _)) := (← ReflectliteValue.parts v, ← ReflectliteValue.parts x)
      | unsupported (.noEntry "extern/(internal/reflectlite.Value).Set.zeroValue")
    if fl / ReflectliteValue.flagAddr % 2 == 0 then unsupported (.noEntry "extern/(internal/reflectlite.Value).Set.unaddressable")
    let val ← loadVar src b
    if ← Rtype.directlyAssignable dst src then storeVar dst a val
    else if ← Rtype.implements dst src then
      if (← Rtype.kind src) == 20 then
        match val with
        | .nilIface => unsupported (.noEntry "extern/reflectlite: a nil value of one interface type handed on as a value of another")
        | _ => storeVar dst a val
      else storeVar dst a (.iface src val)
    else panicString ("reflectlite.Set: value of type " ++ (← Rtype.spelt src) ++ " is not assignable to type " ++ (← Rtype.spelt dst))
    pure (.tuple #[])) := rfl
theorem eU.partsA (a : Addr) (w : World) : (ReflectliteValue.parts (.agg #[.pointer (some ⟨4, 97, none⟩), .pointer (some a), .int .u64 409])).run Tryz.prog w = .ok (some (97, a, 409)) w := by kernel_rfl
theorem eU.parts (a : Addr) (w : World) : (ReflectliteValue.parts (.agg #[.pointer (some ⟨4, 97, none⟩), .pointer (some a), .int .u64 153])).run Tryz.prog w = .ok (some (97, a, 153)) w := by kernel_rfl
theorem eU.direct (w : World) : (Rtype.directlyAssignable 97 97).run Tryz.prog w = .ok true w := by kernel_rfl
theorem eU.size (w : World) : (sizeOf 97).run Tryz.prog w = .ok 1 w := by kernel_rfl
theorem eU.agg (w : World) : (isAgg 97).run Tryz.prog w = .ok true w := by kernel_rfl
theorem eU.set (ta b : Addr) (x : ByteArray) (old : Value) (W : World) (hb : W.cell? b = some (.string x)) (ht : W.cell? ta = some old) (hf : W.frozen? ta = false) :
    (ReflectliteValue.set #[.agg #[.pointer (some ⟨4, 97, none⟩), .pointer (some ta), .int .u64 409], .agg #[.pointer (some ⟨4, 97, none⟩), .pointer (some b), .int .u64 153]]).run Tryz.prog W
      = .ok (.tuple #[]) (W.setCell ta (.string x)) := by
  rw [rls]
  simp only [Sem.run_bind, eU.partsA, eU.parts, Result.andThen]
  simp [ReflectliteValue.flagAddr, loadVar, eU.agg, eU.size, loadCells, loadCellsFrom, underlying, Tryz.underlying97, hb, Result.andThen, eU.direct, storeVar, Value.cells, storeCells, Addr.add]
  rw [run_store Tryz.prog W ta _ _ (by rfl)]
  simp [ht, hf]
end Go.Proofs.YtefmmopkikpnhaaGreatDoor

namespace Go.Proofs.YtefmmopkikpnhaaGreatDoor
open Go.RowKit Go.Extern.Stop Go.Stop Go.Extern Go.LatT
set_option linter.unusedVariables false
set_option linter.unusedSimpArgs false
set_option maxHeartbeats 4000000 in
set_option maxRecDepth 100000 in
theorem as_hit (x : ByteArray) (t : Nat) (old : Value) (w : World) (hg : w.cell? ⟨0, 0, none⟩ = some (.iface 204 (.agg #[.pointer (some ⟨4, 63, none⟩)]))) (ht0 : w.cell? ⟨t, 0, none⟩ = some old) (hf0 : w.frozen? ⟨t, 0, none⟩ = false) :
    Calls Tryz.prog 89 #[.iface 97 (.agg #[.string x]), .iface 103 (.pointer (some ⟨t, 0, none⟩))] w fun ev w' => ev = .returned (.bool true) ∧ ∃ w1, Below w.heap.size w w1 ∧ w' = w1.setCell ⟨t, 0, none⟩ (.string x) := by
  have h6 := @run_callFunc_extern Tryz.prog 138 _ (fun args => ReflectliteValue.unpack (args.getD 0 (.tuple #[]))) Tryz.func138 (by kernel_rfl) (by kernel_rfl) (by kernel_rfl) (by kernel_rfl)
  have h7 := @run_callFunc_extern Tryz.prog 139 _ (ReflectliteValue.methodAny (ReflectliteValue.valueError "reflectlite.Value.Type" 0) (fun t _ _ _ => ReflectliteType.toType t)) Tryz.func139 (by kernel_rfl) (by kernel_rfl) (by kernel_rfl) (by kernel_rfl)
  have h8 := @run_callFunc_extern Tryz.prog 140 _ (ReflectliteValue.method (ReflectliteValue.valueError "reflectlite.Value.IsNil" 0) ReflectliteValue.isNil) Tryz.func140 (by kernel_rfl) (by kernel_rfl) (by kernel_rfl) (by kernel_rfl)
  have h27 := @run_callFunc_extern Tryz.prog 205 _ (ReflectliteType.abiMethod fun t => do pure (.int .u8 (← Rtype.kind t))) Tryz.func205 (by kernel_rfl) (by kernel_rfl) (by kernel_rfl) (by kernel_rfl)
  have h37 := @run_callFunc_extern Tryz.prog 217 _ (ReflectliteType.method ReflectliteType.elem) Tryz.func217 (by kernel_rfl) (by kernel_rfl) (by kernel_rfl) (by kernel_rfl)
  have h38 := @run_callFunc_extern Tryz.prog 218 _ (ReflectliteType.relation "Implements" ReflectliteType.implements_) Tryz.func218 (by kernel_rfl) (by kernel_rfl) (by kernel_rfl) (by kernel_rfl)
  have h10 := @run_callFunc_extern Tryz.prog 176 _ ReflectliteType.typeOf Tryz.func176 (by kernel_rfl) (by kernel_rfl) (by kernel_rfl) (by kernel_rfl)
  have h35 := @run_callFunc_extern Tryz.prog 215 _ (ReflectliteType.relation "AssignableTo" ReflectliteType.assignableTo) Tryz.func215 (by kernel_rfl) (by kernel_rfl) (by kernel_rfl) (by kernel_rfl)
  have h11 := @run_callFunc_extern Tryz.prog 177 _ (ReflectliteValue.method (ReflectliteValue.valueError "reflectlite.Value.Elem" 0) ReflectliteValue.elem) Tryz.func177 (by kernel_rfl) (by kernel_rfl) (by kernel_rfl) (by kernel_rfl)
  have h12 := @run_callFunc_extern Tryz.prog 178 _ ReflectliteValue.set Tryz.func178 (by kernel_rfl) (by kernel_rfl) (by kernel_rfl) (by kernel_rfl)
  have tO := eU.typeOf
  have a25 := eU.assignable
  have v25 := eU.valueOf
  have f6 := eP.valueOf
  have f7 := eP.type
  have k27 := eP.kind
  have k25 := eU.kind
  have e27 := eP.elem
  have i25 := eU.implements
  have mK := eM.kind
  have mE := eM.elem
  have mI := eM.impl
  have mA := eM.assign
  have n8 := eP.isNil
  have htl : t < w.heap.size := by
    rcases Nat.lt_or_ge t w.heap.size with h | h
    · exact h
    · simp [World.cell?, Array.getElem?_eq_none h] at ht0
  have el := eP.elemV ⟨w.heap.size, 0, none⟩ ⟨t, 0, none⟩ (((w.alloc (.cells #[.pointer (some ⟨t, 0, none⟩)] 103)).alloc (.cells #[.pointer (some ⟨4, 103, none⟩), .pointer (some ⟨w.heap.size, 0, none⟩), .int .u64 150] 156)).alloc (.cells #[.pointer (some ⟨4, 103, none⟩), .pointer (some ⟨w.heap.size, 0, none⟩), .int .u64 150] 156)) (by rw [World.cell?_alloc_lt _ _ ⟨w.heap.size, 0, none⟩ (by simp; omega), World.cell?_alloc_lt _ _ ⟨w.heap.size, 0, none⟩ (by simp)]; simp)
  have st := eU.set ⟨t, 0, none⟩ ⟨w.heap.size + 1 + 1 + 1, 0, none⟩ x old ((((w.alloc (.cells #[.pointer (some ⟨t, 0, none⟩)] 103)).alloc (.cells #[.pointer (some ⟨4, 103, none⟩), .pointer (some ⟨w.heap.size, 0, none⟩), .int .u64 150] 156)).alloc (.cells #[.pointer (some ⟨4, 103, none⟩), .pointer (some ⟨w.heap.size, 0, none⟩), .int .u64 150] 156)).alloc (.cells #[.string x] 97)) (by rw [World.cell?_alloc_at _ _ _ _ (by simp)]; rfl)
    (by rw [World.cell?_alloc_lt _ _ ⟨t, 0, none⟩ (by simp; omega), World.cell?_alloc_lt _ _ ⟨t, 0, none⟩ (by simp; omega), World.cell?_alloc_lt _ _ ⟨t, 0, none⟩ (by simp; omega), World.cell?_alloc_lt _ _ ⟨t, 0, none⟩ htl]; exact ht0)
    (by rw [World.frozen?_alloc_old _ _ ⟨t, 0, none⟩ (by simp; omega), World.frozen?_alloc_old _ _ ⟨t, 0, none⟩ (by simp; omega), World.frozen?_alloc_old _ _ ⟨t, 0, none⟩ (by simp; omega), World.frozen?_alloc_old _ _ ⟨t, 0, none⟩ (Nat.ne_of_lt htl)]; exact hf0)
  have hlt : 0 < w.heap.size := by
    rcases Nat.eq_zero_or_pos w.heap.size with h0 | h
    · simp [World.cell?, h0] at hg
    · exact h
  go_enter Tryz.func89, Tryz.ntmps89
  go_wp2
  refine wp_loop_rounds 1 ?_
  rw [rounds_succ]
  go_wp2
  go_ret
  refine ⟨rfl, _, ?_, rfl⟩
  iterate 5 (first | exact Below.refl _ _ | refine Below.alloc ?_ (by simp; try omega) _)
end Go.Proofs.YtefmmopkikpnhaaGreatDoor

namespace Go.Proofs.YtefmmopkikpnhaaGreatDoor
open Go.RowKit Go.LatT
set_option linter.unusedVariables false
set_option linter.unusedSimpArgs false
set_option maxHeartbeats 1000000 in
set_option maxRecDepth 100000 in
theorem couldRead_nil (w : World) : Calls Tryz.prog 45 #[.nilIface] w fun e w' => e = .returned (.bool true) ∧ Below w.heap.size w w' := by
  go_enter Tryz.func45, Tryz.ntmps45
  go_wp2_with (go_at_call 89; refine (as_nil _ _).mono ?_; rintro e w9 ⟨rfl, rfl⟩)
  go_ret
  exact ⟨rfl, by go_grown⟩
/-- The variable of package errors that As reads. -/
def ErrT (w : World) : Prop := w.cell? ⟨0, 0, none⟩ = some (.iface 204 (.agg #[.pointer (some ⟨4, 63, none⟩)]))
theorem cell_lt' {w : World} {b o : Nat} {v : Value} (h : w.cell? ⟨b, o, none⟩ = some v) : b < w.heap.size := by
  rcases Nat.lt_or_ge b w.heap.size with h0 | h0
  · exact h0
  · simp [World.cell?, Array.getElem?_eq_none h0] at h
theorem ErrT.later {w w' : World} (h : ErrT w) (hb : Below w.heap.size w w') : ErrT w' := ((bcell hb).1 _ _ (cell_lt' h)).trans h
set_option maxHeartbeats 1000000 in
set_option maxRecDepth 100000 in
theorem couldRead_not (x : ByteArray) (w : World) (hE : ErrT w) : Calls Tryz.prog 45 #[.iface 97 (.agg #[.string x])] w fun e w' => e = .returned (.bool false) ∧ Below w.heap.size w w' := by
  have E1 := hid_in (hE.later (below_box w (.cells #[.string ⟨#[]⟩] 97)))
  clear hE
  go_enter Tryz.func45, Tryz.ntmps45
  go_wp2_with fail
  refine (as_hit x w.heap.size (.string ⟨#[]⟩) _ E1.out (by go_simp) (by go_simp)).mono ?_
  rintro e w9 ⟨rfl, w1, hb1, rfl⟩
  go_wp2_with fail
  go_ret
  exact ⟨rfl, (below_later (below_box w _) hb1).setCell (by simp) _⟩
end Go.Proofs.YtefmmopkikpnhaaGreatDoor

namespace Go.Proofs.YtefmmopkikpnhaaGreatDoor
open Go.RowKit Go.LatT Go.BlockM Go.PlainAid Go.OpnT Go.ApdG Go.BytM
set_option linter.unusedVariables false
set_option linter.unusedSimpArgs false
theorem sclone_any (s : ByteArray) (w : World) (h : s.size ≤ 1048576) :
    Calls Tryz.prog 116 #[.string s] w fun e w' => e = .returned (.string s) ∧ Below w.heap.size w w' := by
  go_enter Tryz.func116, Tryz.ntmps116
  go_wp2_with fail
  refine (Tryz.stringslite_Clone s _ (by omega)).mono ?_
  rintro e w1 ⟨rfl, hb1⟩
  go_wp2_with fail
  go_ret
  exact ⟨rfl, hb1⟩
theorem fillL_len (l : List UInt8) : (fillL l).length = l.length + (16 - l.length % 16) := by simp [fillL, rep_len]
theorem str_ne {y s : ByteArray} (h : y ≠ s) : (y.toList == s.toList) = false := by
  rw [ByteArray.toList_eq, ByteArray.toList_eq]
  have : y.data.toList ≠ s.data.toList := fun e => h (bl_inj e)
  simpa using this
theorem str_some {s : ByteArray} (h : s.size ≠ 0) : s.toList.isEmpty = false := by
  rw [ByteArray.toList_eq]
  have := bl_len s
  cases hl : s.data.toList with
  | nil => unfold bl at this; rw [hl] at this; exact absurd this.symm h
  | cons _ _ => rfl
theorem take_extract (s : ByteArray) (k : Nat) : bl (s.extract 0 k) = (bl s).take k := by
  simp [bl, ByteArray.data_extract]
theorem extract_all (s : ByteArray) : s.extract 0 (s.size - 0) = s := by
  apply bl_inj
  rw [take_extract, List.take_of_length_le (by rw [bl_len]; omega)]
/-- How many bytes the last one tells. -/
def lastN (s : ByteArray) : Nat := (bt s (s.size - 1)).toNat
/-- Whether the last byte tells the filling. -/
def unfB (s : ByteArray) : Bool := decide (s.size ≠ 0) && decide (1 ≤ lastN s) && decide (lastN s ≤ s.size) && decide ((⟨(fillL (bl (s.extract 0 (s.size - lastN s)))).toArray⟩ : ByteArray) = s)
/-- What is left. -/
def unfT (s : ByteArray) : ByteArray := if unfB s then s.extract 0 (s.size - lastN s) else ⟨#[]⟩
/-- All of a text filled is longer. -/
theorem fill_ne (s : ByteArray) : (⟨(fillL (bl s)).toArray⟩ : ByteArray) ≠ s := by
  intro e
  have := congrArg (fun x => (bl x).length) e
  simp only [bl_of] at this
  rw [fillL_len] at this
  omega
set_option maxHeartbeats 1000000 in
set_option maxRecDepth 100000 in
theorem unfillS (s : ByteArray) (w : World) (hs : s.size ≤ 1048576) (b : Bool) (t : ByteArray) (hb : unfB s = b) (ht : unfT s = t) :
    Calls Tryz.prog 42 #[.string s] w fun e w' => e = .returned (.tuple #[.string t, .bool b]) ∧ Below w.heap.size w w' := by
  have HB := hid_in hb; have HT := hid_in ht
  clear hb ht
  by_cases h0 : s.size = 0
  · have e1 : unfB s = false := by simp [unfB, h0]
    have R : Hid (b = false ∧ t = ⟨#[]⟩) := ⟨by rw [← HB.out, e1], by rw [← HT.out, unfT, e1]; rfl⟩
    go_enter Tryz.func42, Tryz.ntmps42
    go_wp2_with fail
    go_ret2
    exact ⟨by rw [R.out.1, R.out.2]; rfl, Below.refl _ _⟩
  · have hbt := get_bt s
    have g0 := bt_nonneg s (s.size - 1)
    have g1 := bt_le s (s.size - 1)
    have em : bt s (s.size - 1) = (lastN s : Int) := by unfold lastN; omega
    have EQ : Hid (unfB s = (decide (s.size ≠ 0) && decide (1 ≤ lastN s) && decide (lastN s ≤ s.size) && decide ((⟨(fillL (bl (s.extract 0 (s.size - lastN s)))).toArray⟩ : ByteArray) = s))) := hid_in rfl
    have ET : Hid (unfT s = if unfB s then s.extract 0 (s.size - lastN s) else ⟨#[]⟩) := hid_in rfl
    rw [em] at g0 g1
    generalize lastN s = m at *
    obtain ⟨v, hv⟩ : ∃ v, inB (m : Int) 1 (s.size : Int) = v := ⟨_, rfl⟩
    have HV := hid_in hv
    cases v
    · have e1 : unfB s = false := by
        rw [EQ.out]
        simp [inB] at hv
        by_cases hm : m = 0
        · subst hm; simp
        · have : ¬ m ≤ s.size := by omega
          simp [this]
      have R : Hid (b = false ∧ t = ⟨#[]⟩) := ⟨by rw [← HB.out, e1], by rw [← HT.out, ET.out, e1]; rfl⟩
      clear hv
      go_enter Tryz.func42, Tryz.ntmps42
      go_wp2_with fail
      refine (l1In_any _ _ _ _ _ HV.out).mono ?_
      rintro e w1 ⟨rfl, rfl⟩
      go_wp2_with fail
      go_ret2
      exact ⟨by rw [R.out.1, R.out.2]; rfl, Below.refl _ _⟩
    · have hm1 : 1 ≤ m ∧ m ≤ s.size := by simp [inB] at hv; omega
      obtain ⟨x, hx⟩ : ∃ x, s.extract 0 (s.size - m) = x := ⟨_, rfl⟩
      have hxz : x.size ≤ 1048576 := by rw [← hx, ByteArray.size_extract]; omega
      have F := hid_in (fun w => fillS x w hxz)
      have HX := hid_in hx
      obtain ⟨y, hy⟩ : ∃ y, (⟨(fillL (bl x)).toArray⟩ : ByteArray) = y := ⟨_, rfl⟩
      have HY := hid_in hy
      rw [hy] at F
      clear hv
      by_cases hys : y = s
      · have e1 : unfB s = true := by rw [EQ.out, hx, hy]; simp [h0, hm1, hys]
        have R : Hid (b = true ∧ t = x) := ⟨by rw [← HB.out, e1], by rw [← HT.out, ET.out, e1, hx]; rfl⟩
        subst hys
        go_enter Tryz.func42, Tryz.ntmps42
        go_wp2_with fail
        refine (l1In_any _ _ _ _ _ HV.out).mono ?_
        rintro e w1 ⟨rfl, rfl⟩
        go_wp2_with fail
        refine (F.out _).mono ?_
        rintro e w1 ⟨rfl, hb1⟩
        go_wp2_with fail
        go_ret2
        exact ⟨by rw [R.out.1, R.out.2]; rfl, hb1⟩
      · have e1 : unfB s = false := by rw [EQ.out, hx, hy]; simp [hys]
        have R : Hid (b = false ∧ t = ⟨#[]⟩) := ⟨by rw [← HB.out, e1], by rw [← HT.out, ET.out, e1]; rfl⟩
        have hne := str_ne hys
        go_enter Tryz.func42, Tryz.ntmps42
        go_wp2_with fail
        refine (l1In_any _ _ _ _ _ HV.out).mono ?_
        rintro e w1 ⟨rfl, rfl⟩
        go_wp2_with fail
        refine (F.out _).mono ?_
        rintro e w1 ⟨rfl, hb1⟩
        go_wp2_with fail
        go_ret2
        exact ⟨by rw [R.out.1, R.out.2]; rfl, hb1⟩
/-- Why filled text cannot be read. -/
@[reducible] def eUnf : Value := .iface 97 (.agg #[.string ⟨#[102, 105, 108, 108, 101, 100, 32, 116, 101, 120, 116]⟩])
set_option maxHeartbeats 1000000 in
set_option maxRecDepth 100000 in
theorem unfilledI (s : ByteArray) (w : World) (hs : s.size ≤ 1048576) :
    Calls Tryz.prog 92 #[.string s] w fun e w' => e = .returned (.tuple #[.string (unfT s), if unfB s then .nilIface else eUnf]) ∧ Below w.heap.size w w' := by
  by_cases h0 : s.size = 0
  · have e1 : unfB s = false := by simp [unfB, h0]
    have R := hid_in e1
    have hz : s = ⟨#[]⟩ := by
      apply bl_inj
      have := bl_len s
      rw [h0] at this
      rw [List.length_eq_zero_iff.1 this]; rfl
    have ER : Hid (Value.tuple #[.string (unfT s), if unfB s then .nilIface else eUnf] = .tuple #[.string ⟨#[]⟩, eUnf]) := by
      show _ = _
      rw [unfT, e1]; rfl
    rw [ER.out]
    subst hz
    clear e1 R ER h0
    go_enter Tryz.func92, Tryz.ntmps92
    go_wp2_with fail
    go_ret2
    exact ⟨rfl, Below.refl _ _⟩
  · have hbt := get_bt s
    have hne0 := str_some h0
    have g0 := bt_nonneg s (s.size - 1)
    have g1 := bt_le s (s.size - 1)
    have em : bt s (s.size - 1) = (lastN s : Int) := by unfold lastN; omega
    have EQ : Hid (unfB s = (decide (s.size ≠ 0) && decide (1 ≤ lastN s) && decide (lastN s ≤ s.size) && decide ((⟨(fillL (bl (s.extract 0 (s.size - lastN s)))).toArray⟩ : ByteArray) = s))) := hid_in rfl
    have ET : Hid (unfT s = if unfB s then s.extract 0 (s.size - lastN s) else ⟨#[]⟩) := hid_in rfl
    rw [em] at g0 g1
    generalize lastN s = m at *
    by_cases hm : m ≤ s.size
    · obtain ⟨x, hx⟩ : ∃ x, s.extract 0 (s.size - m) = x := ⟨_, rfl⟩
      have hxz : x.size ≤ 1048576 := by rw [← hx, ByteArray.size_extract]; omega
      have F := hid_in (fun w => fillI x w hxz)
      obtain ⟨y, hy⟩ : ∃ y, (⟨(fillL (bl x)).toArray⟩ : ByteArray) = y := ⟨_, rfl⟩
      rw [hy] at F
      by_cases hys : y = s
      · have hm1 : 1 ≤ m := by
          rcases Nat.eq_zero_or_pos m with h | h
          · subst h
            have : x = s := by rw [← hx]; exact extract_all s
            rw [this] at hy
            exact absurd (hy.trans hys) (fill_ne s)
          · exact h
        have e1 : unfB s = true := by rw [EQ.out, hx, hy]; simp [h0, hm, hm1, hys]
        have ER : Hid (Value.tuple #[.string (unfT s), if unfB s then .nilIface else eUnf] = .tuple #[.string x, .nilIface]) := by
          show _ = _
          rw [ET.out, e1, hx]; rfl
        rw [ER.out]
        clear ER e1 EQ ET
        have HX := hid_in hxz
        subst hys
        clear hy
        go_enter Tryz.func92, Tryz.ntmps92
        go_wp2_with fail
        refine (F.out _).mono ?_
        rintro e w1 ⟨rfl, hb1⟩
        go_wp2_with fail
        refine (sclone_any x _ HX.out).mono ?_
        rintro e w2 ⟨rfl, hb2⟩
        go_wp2_with fail
        go_ret2
        exact ⟨rfl, below_later hb1 hb2⟩
      · have e1 : unfB s = false := by rw [EQ.out, hx, hy]; simp [hys]
        have hne := str_ne hys
        have ER : Hid (Value.tuple #[.string (unfT s), if unfB s then .nilIface else eUnf] = .tuple #[.string ⟨#[]⟩, eUnf]) := by
          show _ = _
          rw [ET.out, e1]; rfl
        rw [ER.out]
        clear ER e1 EQ ET hys hy
        go_enter Tryz.func92, Tryz.ntmps92
        go_wp2_with fail
        refine (F.out _).mono ?_
        rintro e w1 ⟨rfl, hb1⟩
        go_wp2_with fail
        go_ret2
        exact ⟨rfl, hb1⟩
    · have e1 : unfB s = false := by rw [EQ.out]; simp [hm]
      have ER : Hid (Value.tuple #[.string (unfT s), if unfB s then .nilIface else eUnf] = .tuple #[.string ⟨#[]⟩, eUnf]) := by
        show _ = _
        rw [ET.out, e1]; rfl
      rw [ER.out]
      clear ER e1 EQ ET
      go_enter Tryz.func92, Tryz.ntmps92
      go_wp2_with fail
      go_ret2
      exact ⟨rfl, Below.refl _ _⟩
end Go.Proofs.YtefmmopkikpnhaaGreatDoor

namespace Go.Proofs.YtefmmopkikpnhaaGreatDoor
open Go.RowKit Go.LatT Go.BlockM Go.PlainAid Go.OpnT Go.ApdG Go.BytM
set_option linter.unusedVariables false
set_option linter.unusedSimpArgs false
end Go.Proofs.YtefmmopkikpnhaaGreatDoor

namespace Go.Proofs.YtefmmopkikpnhaaGreatDoor
open Go.RowKit Go.LatT Go.BlockM Go.PlainAid Go.OpnT Go.RegE Go.ApdG Go.BytM
set_option linter.unusedVariables false
set_option linter.unusedSimpArgs false
/-- What is told of a reading: nothing, or that it failed. -/
def ErrV (b : Bool) (v : Value) : Prop := if b then ∃ x : ByteArray, v = .iface 97 (.agg #[.string x]) else v = .nilIface
/-- A source lies in a block. -/
structure Sat (w : World) (g : Nat) (r : ByteArray) (v : Value) : Prop where
  lt : g < w.heap.size
  c0 : w.cell? ⟨g, 0, none⟩ = some (.string r)
  c1 : w.cell? ⟨g, 1, none⟩ = some v
  f : ∀ o, w.frozen? ⟨g, o, none⟩ = false
theorem Sat.later {w w' : World} {g : Nat} {r : ByteArray} {v : Value} (h : Sat w g r v) (hb : Below w.heap.size w w') : Sat w' g r v :=
  ⟨Nat.lt_of_lt_of_le h.lt hb.size, ((bcell hb).1 _ _ h.lt).trans h.c0, ((bcell hb).1 _ _ h.lt).trans h.c1, fun o => ((bcell hb).2 _ o h.lt).trans (h.f o)⟩
theorem Sat.mv {w w' : World} {g R : Nat} {r : ByteArray} {v : Value} (h : Sat w g r v) (m : Mv R w w') (hg : g ≠ R) : Sat w' g r v :=
  ⟨Nat.lt_of_lt_of_le h.lt m.size, (m.cell _ _ h.lt hg).trans h.c0, (m.cell _ _ h.lt hg).trans h.c1, fun o => (m.frozen _ o h.lt hg).trans (h.f o)⟩
theorem Sat.new (w : World) (r : ByteArray) (v : Value) (ty : TypeId) : Sat (w.alloc (.cells #[.string r, v] ty)) w.heap.size r v := ⟨by simp, by go_simp, by go_simp, fun o => by go_simp⟩
theorem Sat.set0 {w : World} {g : Nat} {r : ByteArray} {v : Value} (r' : ByteArray) (h : Sat w g r v) : Sat (w.setCell ⟨g, 0, none⟩ (.string r')) g r' v := by
  obtain ⟨l0, p0, p1, pf⟩ := h
  exact ⟨by simpa using l0, by go_simp, by go_simp, fun o => by go_simp⟩
theorem Sat.set1 {w : World} {g : Nat} {r : ByteArray} {v : Value} (v' : Value) (h : Sat w g r v) : Sat (w.setCell ⟨g, 1, none⟩ v') g r v' := by
  obtain ⟨l0, p0, p1, pf⟩ := h
  exact ⟨by simpa using l0, by go_simp, by go_simp, fun o => by go_simp⟩
theorem Mv.setg (R o : Nat) (w : World) (v : Value) : Mv R w (w.setCell ⟨R, o, none⟩ v) :=
  ⟨rfl, rfl, rfl, by simp, fun k hk hne => heap_setCell_other w ⟨R, o, none⟩ k v (fun e => hne e)⟩
set_option maxHeartbeats 1000000 in
set_option maxRecDepth 100000 in
theorem refuse_any (g : Nat) (r x : ByteArray) (b : Bool) (v : Value) (w : World) (h : Sat w g r v) (hv : ErrV b v) :
    Calls Tryz.prog 88 #[.pointer (some ⟨g, 0, none⟩), .string x] w fun e w' => e = .returned (.tuple #[]) ∧ (∃ v', Sat w' g r v' ∧ ErrV true v') ∧ Mv g w w' := by
  have H := hid_in h
  obtain ⟨l0, p0, p1, pf⟩ := h
  cases b
  · have hv' : v = .nilIface := hv
    subst hv'
    clear hv
    go_enter Tryz.func88, Tryz.ntmps88
    go_wp2_with fail
    go_end0
    exact ⟨rfl, ⟨_, H.out.set1 _, ⟨x, rfl⟩⟩, Mv.setg _ _ _ _⟩
  · have hv' : ∃ x : ByteArray, v = .iface 97 (.agg #[.string x]) := hv
    obtain ⟨y, rfl⟩ := hv'
    have V := hid_in hv
    clear hv
    go_enter Tryz.func88, Tryz.ntmps88
    go_wp2_with fail
    go_end0
    exact ⟨rfl, ⟨_, H.out, V.out⟩, Mv.refl _ _⟩
set_option maxHeartbeats 1000000 in
set_option maxRecDepth 100000 in
theorem piece_ok (g n : Nat) (r : ByteArray) (v : Value) (w : World) (h : Sat w g r v) (hr : r.size ≤ 1048576) (hn : n ≤ r.size) :
    Calls Tryz.prog 87 #[.pointer (some ⟨g, 0, none⟩), .int .i64 (n : Int)] w fun e w' => e = .returned (.string (r.extract 0 n)) ∧ Sat w' g (r.extract n r.size) v ∧ Mv g w w' := by
  have H := hid_in h
  obtain ⟨l0, p0, p1, pf⟩ := h
  obtain ⟨x, hx⟩ : ∃ x, r.extract 0 n = x := ⟨_, rfl⟩
  have hxz : x.size ≤ 1048576 := by rw [← hx, ByteArray.size_extract]; omega
  have HX := hid_in hx; have HZ := hid_in hxz
  go_enter Tryz.func87, Tryz.ntmps87
  go_wp2_with fail
  refine (sclone_any x _ HZ.out).mono ?_
  rintro e w1 ⟨rfl, hb1⟩
  have H1 := hid_in (H.out.later hb1)
  clear l0 p0 p1 pf
  obtain ⟨l0, p0, p1, pf⟩ := H1.out
  go_wp2_with fail
  go_ret
  exact ⟨by rw [HX.out]; rfl, H1.out.set0 _, (Mv.of_below hb1).trans (Mv.setg _ _ _ _)⟩
set_option maxHeartbeats 1000000 in
set_option maxRecDepth 100000 in
theorem piece_no (g n : Nat) (r : ByteArray) (b : Bool) (v : Value) (w : World) (h : Sat w g r v) (hv : ErrV b v) (hr : r.size ≤ 1048576) (hn : r.size < n) (hn2 : n ≤ 1048576) :
    Calls Tryz.prog 87 #[.pointer (some ⟨g, 0, none⟩), .int .i64 (n : Int)] w fun e w' => e = .returned (.string ⟨#[]⟩) ∧ (∃ v', Sat w' g r v' ∧ ErrV true v') ∧ Mv g w w' := by
  have H := hid_in h
  have V := hid_in hv
  obtain ⟨l0, p0, p1, pf⟩ := h
  clear hv
  go_enter Tryz.func87, Tryz.ntmps87
  go_wp2_with fail
  refine (refuse_any g r _ b v _ H.out V.out).mono ?_
  rintro e w1 ⟨rfl, h1, m1⟩
  go_wp2_with fail
  go_ret
  exact ⟨rfl, h1, m1⟩
/-- A piece was read, or it failed. -/
def Pc (n : Nat) (r r' : ByteArray) (b b' : Bool) (x : ByteArray) : Prop := (n ≤ r.size ∧ b' = b ∧ r' = r.extract n r.size ∧ x = r.extract 0 n) ∨ (r.size < n ∧ b' = true ∧ r' = r ∧ x = ⟨#[]⟩)
theorem Pc.size {n : Nat} {r r' x : ByteArray} {b b' : Bool} (h : Pc n r r' b b' x) : r'.size ≤ r.size ∧ x.size ≤ r.size ∧ x.size ≤ n := by
  rcases h with ⟨h, _, rfl, rfl⟩ | ⟨h, _, rfl, rfl⟩
  · simp only [ByteArray.size_extract]; omega
  · exact ⟨Nat.le_refl _, Nat.zero_le _, Nat.zero_le _⟩
theorem piece_any (g n : Nat) (r : ByteArray) (b : Bool) (v : Value) (w : World) (h : Sat w g r v) (hv : ErrV b v) (hr : r.size ≤ 1048576) (hn : n ≤ 1048576) :
    Calls Tryz.prog 87 #[.pointer (some ⟨g, 0, none⟩), .int .i64 (n : Int)] w fun e w' => ∃ x r' b' v', e = .returned (.string x) ∧ Pc n r r' b b' x ∧ Sat w' g r' v' ∧ ErrV b' v' ∧ Mv g w w' := by
  by_cases hk : n ≤ r.size
  · refine (piece_ok g n r v w h hr hk).mono ?_
    rintro e w1 ⟨rfl, h1, m1⟩
    exact ⟨_, _, b, v, rfl, .inl ⟨hk, rfl, rfl, rfl⟩, h1, hv, m1⟩
  · refine (piece_no g n r b v w h hv hr (by omega) hn).mono ?_
    rintro e w1 ⟨rfl, ⟨v', h1, h2⟩, m1⟩
    exact ⟨_, _, true, v', rfl, .inr ⟨by omega, rfl, rfl, rfl⟩, h1, h2, m1⟩
theorem or_i64 {a q : Int} (h0 : 0 ≤ a) (h1 : a < 4294967296) (h2 : 0 ≤ q) (h3 : q ≤ 255) : bits .or .i64 (a * 256) q = a * 256 + q := by
  obtain ⟨A, rfl⟩ := Int.eq_ofNat_of_zero_le h0
  obtain ⟨B, rfl⟩ := Int.eq_ofNat_of_zero_le h2
  have e : (A : Int) * 256 = ((256 * A : Nat) : Int) := by omega
  have hor : 256 * A ||| B = 256 * A + B := (Nat.two_pow_add_eq_or_of_lt (i := 8) (b := B) (by omega) A).symm
  rw [e]
  show IntKind.i64.wrap ((BitVec.ofInt 64 ((256 * A : Nat) : Int) ||| BitVec.ofInt 64 (B : Int)).toNat : Int) = _
  rw [BitVec.toNat_or, ofInt_u64 (256 * A) (by omega), ofInt_u64 B (by omega), hor]
  rw [wrap_i64_small _ (by omega) (by omega)]
  omega
/-- A text as a new row of bytes. -/
theorem conv_str (x : ByteArray) (w : World) : ∃ cap W, (convert 9 25 (.string x)).run Tryz.prog w = .ok (.slice (some ⟨w.heap.size, 0, none⟩) x.size cap) W ∧ Below w.heap.size w W ∧ W.heap.size = w.heap.size + 1 ∧ ∀ j, j < x.size → W.cell? ⟨w.heap.size, j, none⟩ = some (.int .u8 (bt x j)) := by
  refine ⟨_, _, run_bytes_of_string w 9 25 5 x Tryz.underlying9 Tryz.underlying25 Tryz.underlying5, ?_, ?_, ?_⟩
  · exact (Below.refl _ _).drew.alloc (Nat.le_refl _) _
  · simp
  · intro j hj
    have hb : (w.drew.alloc (.cells (bytesRow x (grownCap w x.size 0 5)) 5 ((bytesRow x (grownCap w x.size 0 5)).size, (bytesRow x (grownCap w x.size 0 5)).size + 1))).heap[w.heap.size]? = some (.cells (bytesRow x (grownCap w x.size 0 5)) 5 ((bytesRow x (grownCap w x.size 0 5)).size, (bytesRow x (grownCap w x.size 0 5)).size + 1)) := Go.Deep.blk_alloc_new w.drew _
    rw [cell_of_row _ _ _ _ _ _ hb]
    unfold bytesRow bt
    have hj' : j < x.data.size := hj
    rw [dif_pos hj, Array.getElem?_append_left (by rw [Array.size_map]; exact hj'), Array.getElem?_map, Array.getElem?_eq_getElem hj']
    rfl
theorem num_take (x : ByteArray) (k : Nat) (h : k < x.size) : ((num ((bl x).take (k + 1)) : Nat) : Int) = (num ((bl x).take k) : Nat) * 256 + bt x k := by
  rw [List.take_succ_eq_append_getElem (by rw [bl_len]; exact h), num_snoc]
  unfold bt
  rw [dif_pos h]
  rw [Int.natCast_add, Int.natCast_mul]
  rfl
/-- What reading a number answers. -/
def NumP (g n : Nat) (r : ByteArray) (b : Bool) (w : World) (e : Ending) (w' : World) : Prop := ∃ x r' b' v', e = .returned (.int .i64 ((num (bl x) : Nat) : Int)) ∧ Pc n r r' b b' x ∧ Sat w' g r' v' ∧ ErrV b' v' ∧ Mv g w w'
set_option maxHeartbeats 2000000 in
set_option maxRecDepth 100000 in
theorem number_any (g n : Nat) (r : ByteArray) (b : Bool) (v : Value) (w : World) (h : Sat w g r v) (hv : ErrV b v) (hr : r.size ≤ 1048576) (hn : n ≤ 4) :
    Calls Tryz.prog 86 #[.pointer (some ⟨g, 0, none⟩), .int .i64 (n : Int)] w fun e w' => NumP g n r b w e w' := by
  have P := hid_in (fun w h => piece_any g n r b v w h hv hr (by omega))
  have H := hid_in h
  clear h hv
  go_enter Tryz.func86, Tryz.ntmps86
  go_wp2_with fail
  refine (P.out _ H.out).mono ?_
  rintro e w1 ⟨x, r', b', v', rfl, hp, h1, hv1, m1⟩
  have HP := hid_in hp; have H1 := hid_in h1; have V1 := hid_in hv1; have M1 := hid_in m1
  have hxz := hp.size.2.2
  clear hp h1 hv1 m1
  obtain ⟨cap, W, hcv, hbW, hzW, hcW⟩ := conv_str x w1
  have HBW := hid_in hbW; have HZW := hid_in hzW
  clear hbW hzW
  go_wp2_with fail
  go_loop [5, 13] (fun a i => ∃ k : Nat, k ≤ x.size ∧ i = .int .i64 (k : Int) ∧ a = .int .i64 ((num ((bl x).take k) : Nat) : Int)) (fun _ i => x.size - (intOf i).toNat)
  case atStart => exact ⟨0, Nat.zero_le _, rfl, rfl⟩
  case round =>
    obtain ⟨k, hk, rfl, rfl⟩ := hrel
    have hlen : ((bl x).take k).length = k := by rw [List.length_take, bl_len]; omega
    have hlt4 := num_lt k _ hlen
    have hle4 : 256 ^ k ≤ 256 ^ 4 := Nat.pow_le_pow_right (by omega) (by omega)
    by_cases hlt : k < x.size
    · have g0 := bt_nonneg x k
      have g1 := bt_le x k
      have HN := hid_in (num_take x k hlt)
      have hce := hcW k hlt
      have HL := hid_in hlt
      generalize num ((bl x).take k) = a at *
      have ha : (a : Int) < 4294967296 := by omega
      clear hlen hlt4 hle4 hcW
      have hor := or_i64 (a := (a : Int)) (q := bt x k) (by omega) ha g0 g1
      go_wp2_with fail
      refine ⟨⟨k + 1, HL.out, by simp, ?_⟩, by have := HL.out; simp [intOf]; omega⟩
      rw [HN.out]
    · have hk' : k = x.size := by omega
      have HK := hid_in hk'
      go_wp2_with fail
      go_ret
      refine ⟨x, r', b', v', ?_, HP.out, H1.out.later HBW.out, V1.out, M1.out.trans (Mv.of_below HBW.out)⟩
      rw [List.take_of_length_le (by rw [bl_len]; exact Nat.le_refl _)]
      rfl
end Go.Proofs.YtefmmopkikpnhaaGreatDoor

namespace Go.Proofs.YtefmmopkikpnhaaGreatDoor
open Go.RowKit Go.LatT Go.BlockM Go.PlainAid Go.OpnT Go.RegE Go.ApdG Go.BytM
set_option linter.unusedVariables false
set_option linter.unusedSimpArgs false
theorem PBox.mv {w w' : World} {g R : Nat} {f t p : Int} {s : ByteArray} (h : PBox w g f t p s) (m : Mv R w w') (hg : g ≠ R) : PBox w' g f t p s :=
  have q := fun o => m.cell g o h.lt hg
  ⟨Nat.lt_of_lt_of_le h.lt m.size, (q _).trans h.c0, (q _).trans h.c1, (q _).trans h.c2, (q _).trans h.c3⟩
/-- A packet lies in a block that may be written. -/
structure PBf (w : World) (g : Nat) (f t p : Int) (s : ByteArray) : Prop where
  lt : g < w.heap.size
  c0 : w.cell? ⟨g, 0, none⟩ = some (.int .i64 f)
  c1 : w.cell? ⟨g, 1, none⟩ = some (.int .i64 t)
  c2 : w.cell? ⟨g, 2, none⟩ = some (.int .i64 p)
  c3 : w.cell? ⟨g, 3, none⟩ = some (.string s)
  fz : ∀ o, w.frozen? ⟨g, o, none⟩ = false
section
variable {w w' : World} {g R : Nat} {f t p : Int} {s : ByteArray}
theorem PBf.mv (h : PBf w g f t p s) (m : Mv R w w') (hg : g ≠ R) : PBf w' g f t p s :=
  have q := fun o => m.cell g o h.lt hg
  ⟨Nat.lt_of_lt_of_le h.lt m.size, (q _).trans h.c0, (q _).trans h.c1, (q _).trans h.c2, (q _).trans h.c3, fun o => (m.frozen g o h.lt hg).trans (h.fz o)⟩
theorem PBf.later (h : PBf w g f t p s) (hb : Below w.heap.size w w') : PBf w' g f t p s :=
  have q := fun o => (bcell hb).1 g o h.lt
  ⟨Nat.lt_of_lt_of_le h.lt hb.size, (q _).trans h.c0, (q _).trans h.c1, (q _).trans h.c2, (q _).trans h.c3, fun o => ((bcell hb).2 g o h.lt).trans (h.fz o)⟩
theorem PBf.new (w : World) (f t p : Int) (s : ByteArray) (ty : TypeId) : PBf (w.alloc (.cells #[.int .i64 f, .int .i64 t, .int .i64 p, .string s] ty)) w.heap.size f t p s := ⟨by simp, by go_simp, by go_simp, by go_simp, by go_simp, fun o => by go_simp⟩
theorem PBf.set0 (f' : Int) (h : PBf w g f t p s) : PBf (w.setCell ⟨g, 0, none⟩ (.int .i64 f')) g f' t p s := by
  obtain ⟨l0, p0, p1, p2, p3, pf⟩ := h
  exact ⟨by simpa using l0, by go_simp, by go_simp, by go_simp, by go_simp, fun o => by go_simp⟩
theorem PBf.set1 (f' : Int) (h : PBf w g f t p s) : PBf (w.setCell ⟨g, 1, none⟩ (.int .i64 f')) g f f' p s := by
  obtain ⟨l0, p0, p1, p2, p3, pf⟩ := h
  exact ⟨by simpa using l0, by go_simp, by go_simp, by go_simp, by go_simp, fun o => by go_simp⟩
theorem PBf.set2 (f' : Int) (h : PBf w g f t p s) : PBf (w.setCell ⟨g, 2, none⟩ (.int .i64 f')) g f t f' s := by
  obtain ⟨l0, p0, p1, p2, p3, pf⟩ := h
  exact ⟨by simpa using l0, by go_simp, by go_simp, by go_simp, by go_simp, fun o => by go_simp⟩
theorem PBf.set3 (f' : ByteArray) (h : PBf w g f t p s) : PBf (w.setCell ⟨g, 3, none⟩ (.string f')) g f t p f' := by
  obtain ⟨l0, p0, p1, p2, p3, pf⟩ := h
  exact ⟨by simpa using l0, by go_simp, by go_simp, by go_simp, by go_simp, fun o => by go_simp⟩
end
/-- What lies where while a packet is read. -/
structure RdS (w W : World) (gs gp : Nat) (r : ByteArray) (v : Value) (f t p : Int) (s : ByteArray) : Prop where
  sat : Sat W gs r v
  pk : PBf W gp f t p s
  res : PBf W w.heap.size 0 0 0 ⟨#[]⟩
  bel : Below w.heap.size w W
  n1 : gs ≠ gp
  n2 : gs ≠ w.heap.size
  n3 : gp ≠ w.heap.size
  n4 : w.heap.size ≤ gs
  n5 : w.heap.size ≤ gp
section
variable {w W W' : World} {gs gp : Nat} {r r' : ByteArray} {v v' : Value} {f t p : Int} {s : ByteArray}
theorem RdS.read (h : RdS w W gs gp r v f t p s) (m : Mv gs W W') (h' : Sat W' gs r' v') : RdS w W' gs gp r' v' f t p s :=
  ⟨h', h.pk.mv m (Ne.symm h.n1), h.res.mv m (Ne.symm h.n2), h.bel.trans (m.below h.bel.size h.n4), h.n1, h.n2, h.n3, h.n4, h.n5⟩
theorem RdS.later (h : RdS w W gs gp r v f t p s) (hb : Below W.heap.size W W') : RdS w W' gs gp r v f t p s :=
  ⟨h.sat.later hb, h.pk.later hb, h.res.later hb, below_later h.bel hb, h.n1, h.n2, h.n3, h.n4, h.n5⟩
theorem RdS.put (h : RdS w W gs gp r v f t p s) (o : Nat) (u : Value) {f' t' p' : Int} {s' : ByteArray} (h' : PBf (W.setCell ⟨gp, o, none⟩ u) gp f' t' p' s') : RdS w (W.setCell ⟨gp, o, none⟩ u) gs gp r v f' t' p' s' :=
  ⟨h.sat.mv (Mv.setg gp o W u) h.n1, h', h.res.mv (Mv.setg gp o W u) (Ne.symm h.n3), h.bel.setCell h.n5 _, h.n1, h.n2, h.n3, h.n4, h.n5⟩
end
theorem RdS.new (w : World) (x : ByteArray) (t1 t2 t3 : TypeId) :
    RdS w (((w.alloc (.cells #[.int .i64 0, .int .i64 0, .int .i64 0, .string ⟨#[]⟩] t1)).alloc (.cells #[.string x, .nilIface] t2)).alloc (.cells #[.int .i64 0, .int .i64 0, .int .i64 0, .string ⟨#[]⟩] t3)) (w.heap.size + 1) (w.heap.size + 1 + 1) x .nilIface 0 0 0 ⟨#[]⟩ := by
  refine ⟨?_, ?_, ?_, by go_grown, by omega, by omega, by omega, by omega, by omega⟩
  · have h := Sat.new (w.alloc (.cells #[.int .i64 0, .int .i64 0, .int .i64 0, .string ⟨#[]⟩] t1)) x .nilIface t2
    have := h.later (below_box _ (.cells #[.int .i64 0, .int .i64 0, .int .i64 0, .string ⟨#[]⟩] t3))
    simpa using this
  · have h := PBf.new ((w.alloc (.cells #[.int .i64 0, .int .i64 0, .int .i64 0, .string ⟨#[]⟩] t1)).alloc (.cells #[.string x, .nilIface] t2)) 0 0 0 ⟨#[]⟩ t3
    simpa using h
  · exact ((PBf.new w 0 0 0 ⟨#[]⟩ t1).later (below_box _ _)).later (below_box _ _)
end Go.Proofs.YtefmmopkikpnhaaGreatDoor

namespace Go.Proofs.YtefmmopkikpnhaaGreatDoor
open Go.RowKit Go.LatT Go.BlockM Go.PlainAid Go.OpnT Go.RegE Go.ApdG Go.BytM
set_option linter.unusedVariables false
set_option linter.unusedSimpArgs false
theorem bl_extract (x : ByteArray) (i j : Nat) : bl (x.extract i j) = ((bl x).drop i).take (j - i) := by
  simp [bl, ByteArray.data_extract, List.take_drop]
theorem ex_rest (x : ByteArray) (i j : Nat) : (x.extract i x.size).extract j (x.extract i x.size).size = x.extract (i + j) x.size := by
  apply bl_inj
  rw [bl_extract, bl_extract, bl_extract, ByteArray.size_extract]
  rw [List.take_of_length_le (l := (bl x).drop i) (by rw [List.length_drop, bl_len]; omega), List.drop_drop]
  rw [List.take_of_length_le (by rw [List.length_drop, bl_len]; omega), List.take_of_length_le (by rw [List.length_drop, bl_len]; omega)]
theorem ex_head (x : ByteArray) (i n : Nat) (h : i + n ≤ x.size) : (x.extract i x.size).extract 0 n = x.extract i (i + n) := by
  apply bl_inj
  rw [bl_extract, bl_extract, bl_extract, List.drop_zero, Nat.sub_zero, List.take_take, show i + n - i = n by omega, show min n (x.size - i) = n by omega]
/-- A number within bytes. -/
def numX (x : ByteArray) (i j : Nat) : Int := ((num (bl (x.extract i j)) : Nat) : Int)
theorem Pc.yes {n : Nat} {r r' s : ByteArray} {b b' : Bool} (h : Pc n r r' b b' s) (hn : n ≤ r.size) : b' = b ∧ r' = r.extract n r.size ∧ s = r.extract 0 n := by
  rcases h with ⟨_, h⟩ | ⟨h, _⟩
  · exact h
  · omega
theorem Pc.keep {n : Nat} {r r' s : ByteArray} {b b' : Bool} (h : Pc n r r' b b' s) (hb : b' = false) : n ≤ r.size ∧ b = false := by
  rcases h with ⟨h1, h2, _⟩ | ⟨_, h2, _⟩
  · exact ⟨h1, by rw [← h2, hb]⟩
  · rw [h2] at hb; cases hb
end Go.Proofs.YtefmmopkikpnhaaGreatDoor

namespace Go.Proofs.YtefmmopkikpnhaaGreatDoor
open Go.RowKit Go.LatT Go.BlockM Go.PlainAid Go.OpnT Go.RegE Go.ApdG Go.BytM
set_option linter.unusedVariables false
set_option linter.unusedSimpArgs false
set_option maxHeartbeats 1000000 in
set_option maxRecDepth 100000 in
theorem l8Num_any (s : ByteArray) (w : World) (hs : s.size ≤ 4) :
    Calls Tryz.prog 61 #[.string s] w fun e w' => e = .returned (.int .i64 ((num (bl s) : Nat) : Int)) ∧ w' = w := by
  have hbt := get_bt s
  go_enter Tryz.func61, Tryz.ntmps61
  go_wp2_with fail
  go_loop [3, 4] (fun a i => ∃ k : Nat, k ≤ s.size ∧ i = .int .i64 (k : Int) ∧ a = .int .i64 ((num ((bl s).take k) : Nat) : Int)) (fun _ i => s.size - (intOf i).toNat)
  case atStart => exact ⟨0, Nat.zero_le _, rfl, rfl⟩
  case round =>
    obtain ⟨k, hk, rfl, rfl⟩ := hrel
    have hlen : ((bl s).take k).length = k := by rw [List.length_take, bl_len]; omega
    have hlt4 := num_lt k _ hlen
    have hle4 : 256 ^ k ≤ 256 ^ 4 := Nat.pow_le_pow_right (by omega) (by omega)
    by_cases hlt : k < s.size
    · have g0 := bt_nonneg s k
      have g1 := bt_le s k
      have HN := hid_in (num_take s k hlt)
      have HL := hid_in hlt
      generalize num ((bl s).take k) = a at *
      have ha : (a : Int) < 4294967296 := by omega
      clear hlen hlt4 hle4
      go_wp2_with fail
      refine ⟨⟨k + 1, HL.out, by simp, ?_⟩, by have := HL.out; simp [intOf]; omega⟩
      rw [HN.out]
    · have hk' : k = s.size := by omega
      go_wp2_with fail
      go_ret
      exact ⟨by rw [List.take_of_length_le (by rw [bl_len]; omega)]; rfl, rfl⟩
end Go.Proofs.YtefmmopkikpnhaaGreatDoor

