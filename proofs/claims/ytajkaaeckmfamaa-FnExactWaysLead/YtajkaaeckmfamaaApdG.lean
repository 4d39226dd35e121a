/- What is proved: append to a row that the call owns, and make, for whatever element type, as laws for the walk. The conditions stand at each theorem. -/
import Derived.Test.YtajkaaeckmfamaaOwn
import Derived.OwnWalk
import Derived.Laws.AppendOwn
import Derived.Laws.OwnMore
namespace Go.ApdG
open Go.RowKit Go.LatT Go.OpnT
set_option linter.unusedVariables false
set_option linter.unusedSimpArgs false
/-- A slice type T of elements e of k cells. -/
structure ElemT (P : Program) (T e : TypeId) (k : Nat) (z : Value) : Prop where
  under : P.underlying T = some (.slice e)
  info : ∃ i b, P.info? e = some i ∧ i.zero = some z ∧ i.size = k ∧ i.bytes = b ∧ b ≤ 4096
  zsz : z.cells.size = k
  pos : 0 < k
theorem ElemT.mk' {P : Program} {T e : TypeId} {k b : Nat} {z : Value} (h1 : P.underlying T = some (.slice e)) (h2 : (P.info? e).map (fun i => (i.zero, i.size, i.bytes)) = some (some z, k, b)) (hz : z.cells.size = k) (hk : 0 < k) (hb : b ≤ 4096) : ElemT P T e k z := by
  obtain ⟨i0, hi, hzz⟩ := Option.map_eq_some_iff.1 h2
  simp only [Prod.mk.injEq] at hzz
  exact ⟨h1, ⟨i0, b, hi, hzz.1, hzz.2.1, hzz.2.2, hb⟩, hz, hk⟩
section
variable {P : Program} {T e : TypeId} {k : Nat} {z : Value}
theorem wpG1 {o : Oper} {a : Act} {K : Act → World → Prop} {Q : Exit → Act → World → Prop} {w : World} (E : ElemT P T e k z) (s x : Operand)
    (ho : o.op = .call { callee := .builtin .append, args := #[s, x], argTypes := #[T, T] })
    (base : Nat) (v : Value) (n : Nat) (xs : List Value) (hs : a.eval s = v) (hown : w.ownsRow base e k v n xs) (ad : Addr) (m c : Nat) (news : List Value) (hx : a.eval x = .slice (some ad) m c)
    (hl : news.length = m * k) (hnews : ∀ j u, news[j]? = some u → w.cell? (ad.add j) = some u) (h1 : ∀ u ∈ news, u.oneCell' = true) (hlen : n + m ≤ 4000000) (hbase : base ≤ w.heap.size)
    (h : ∀ v' w', w'.ownsRow base e k v' (n + m) (xs ++ news) → w.grownBy w' v.ownBlock → (v' = .slice none 0 0 ↔ v = .slice none 0 0 ∧ m = 0) → K (a.put o.dst v') w') : o.wp P a w K Q := by
  obtain ⟨i, b, hi, hz, hsz, hb, hb'⟩ := E.info
  refine wp_append_own w s x T ho base e i z k b E.under hi hz hsz hb E.zsz E.pos v n xs hs hown ad m c news hx hl hnews h1 (by unfold maxLen; omega) ?_ hbase h
  exact Nat.le_trans (Nat.mul_le_mul hlen hb') (by omega)
theorem wpG {ops : Array Oper} {rest : List Oper} {o : Oper} {a : Act} {Q : Exit → Act → World → Prop} {w : World} (E : ElemT P T e k z) (hgd : o.guard = none) (s x : Operand)
    (ho : o.op = .call { callee := .builtin .append, args := #[s, x], argTypes := #[T, T] })
    (base : Nat) (v : Value) (n : Nat) (xs : List Value) (hs : a.eval s = v) (hown : w.ownsRow base e k v n xs) (ad : Addr) (m c : Nat) (news : List Value) (hx : a.eval x = .slice (some ad) m c)
    (hl : news.length = m * k) (hnews : ∀ j u, news[j]? = some u → w.cell? (ad.add j) = some u) (h1 : ∀ u ∈ news, u.oneCell' = true) (hlen : n + m ≤ 4000000) (hbase : base ≤ w.heap.size)
    (h : ∀ v' w', w'.ownsRow base e k v' (n + m) (xs ++ news) → w.grownBy w' v.ownBlock → (v' = .slice none 0 0 ↔ v = .slice none 0 0 ∧ m = 0) → wpList P ops Q rest (a.put o.dst v') w') : wpList P ops Q (o :: rest) a w :=
  wpList_plain hgd fun _ hK => wpG1 E s x ho base v n xs hs hown ad m c news hx hl hnews h1 hlen hbase fun v' w' h2 h3 h4 => hK _ _ (h v' w' h2 h3 h4)
theorem stepG {ops : Array Oper} {o : Oper} {a : Act} {K : Act → World → Prop} {Q : Exit → Act → World → Prop} {F : Prop} {w : World} (E : ElemT P T e k z) (hgd : o.guard = none) (s x : Operand)
    (ho : o.op = .call { callee := .builtin .append, args := #[s, x], argTypes := #[T, T] })
    (base : Nat) (v : Value) (n : Nat) (xs : List Value) (hs : a.eval s = v) (hown : w.ownsRow base e k v n xs) (ad : Addr) (m c : Nat) (news : List Value) (hx : a.eval x = .slice (some ad) m c)
    (hl : news.length = m * k) (hnews : ∀ j u, news[j]? = some u → w.cell? (ad.add j) = some u) (h1 : ∀ u ∈ news, u.oneCell' = true) (hlen : n + m ≤ 4000000) (hbase : base ≤ w.heap.size)
    (h : ∀ v' w', w'.ownsRow base e k v' (n + m) (xs ++ news) → w.grownBy w' v.ownBlock → (v' = .slice none 0 0 ↔ v = .slice none 0 0 ∧ m = 0) → K (a.put o.dst v') w') :
    if Region.wanted o (yielded ops a.tmps) = true then Oper.wp P o a w K Q else F := by
  have hw : Region.wanted o (yielded ops a.tmps) = true := by simp [Region.wanted, hgd]
  rw [if_pos hw]
  exact wpG1 E s x ho base v n xs hs hown ad m c news hx hl hnews h1 hlen hbase h
/-- make of a slice of one-cell elements, full. -/
theorem make1 (E : ElemT P T e 1 z) (n : Nat) (hn : n ≤ 1000000) (W : World) (hz : z.cells = #[z]) :
    (Instr.makeSlice T (.int .i64 (n : Int)) (.int .i64 (n : Int))).run P W = .ok (.slice (some ⟨W.heap.size, 0, none⟩) n n) (W.alloc (.cells (Array.replicate n z) e)) := by
  obtain ⟨i, b, hi, hz', hsz, hb, hb'⟩ := E.info
  have hbb : (b : Int) * (n : Int) ≤ 281474976710656 := by
    have h : b * n ≤ 4096 * 1000000 := Nat.mul_le_mul hb' hn
    have h2 : ((b * n : Nat) : Int) ≤ ((4096 * 1000000 : Nat) : Int) := by exact_mod_cast h
    rw [Int.natCast_mul] at h2
    omega
  have hr := run_make (P := P) W T e i z E.under hi hz' .i64 .i64 n n (by omega) (Int.le_refl _) (by rw [hb]; exact hbb) (by omega)
  simp only [Int.toNat_natCast, hsz, Nat.mul_one] at hr
  have e1 : madeCells z.cells n = Array.replicate n z := by
    apply Array.ext
    · simp [size_madeCells]
    · intro i h1 h2
      simp [madeCells, hz, Nat.mod_one]
  rw [e1] at hr
  exact hr
end
end Go.ApdG
