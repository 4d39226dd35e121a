/- What is proved: behind an append the old row reads as it did, and the new row lies in the old block or in a new one. The conditions stand at each theorem. -/
import Derived.Test.YtdljoopioglkiaaApdG
namespace Go.ApdG
open Go.RowKit Go.LatT Go.OpnT
set_option linter.unusedVariables false
set_option linter.unusedSimpArgs false
section
variable {P : Program} {T e : TypeId} {k : Nat} {z : Value}
/-- What is known behind an append, the old row lying in block g. -/
structure Grew (w w' : World) (base : Nat) (e : TypeId) (k g n m : Nat) (v' : Value) (xs news : List Value) : Prop where
  own : w'.ownsRow base e k v' (n + m) (xs ++ news)
  by_ : w.grownBy w' (some g)
  old : ∀ j u, xs[j]? = some u → w'.cell? ((⟨g, 0, none⟩ : Addr).add j) = some u
  blk : v'.ownBlock = some g ∨ v'.ownBlock = some w.heap.size
theorem run_grew (w : World) (E : ElemT P T e k z) (ty : TypeId) (base g n cap : Nat) (xs : List Value) (hown : w.ownsRow base e k (.slice (some ⟨g, 0, none⟩) n cap) n xs)
    (ad : Addr) (m c : Nat) (news : List Value) (hl : news.length = m * k) (hnews : ∀ j u, news[j]? = some u → w.cell? (ad.add j) = some u) (h1 : ∀ u ∈ news, u.oneCell' = true) (hlen : n + m ≤ 4000000) (hbase : base ≤ w.heap.size) :
    ∃ v' w', (Builtin.append_ #[T, T] ty #[.slice (some ⟨g, 0, none⟩) n cap, .slice (some ad) m c]).run P w = .ok v' w' ∧ Grew w w' base e k g n m v' xs news := by
  obtain ⟨i, b, hi, hz, hsz, hb, hb'⟩ := E.info
  have hbytes : (n + m) * i.bytes ≤ 140737488355328 := by rw [hb]; exact Nat.le_trans (Nat.mul_le_mul hlen hb') (by omega)
  obtain ⟨v', w', hr, ho, hg, _⟩ := run_append_own (P := P) w base T ty e i z k i.bytes E.under hi hz hsz rfl E.zsz E.pos _ n xs hown ad m c news hl hnews h1 (by unfold maxLen; omega) hbytes hbase
  have holds : ∀ j u, xs[j]? = some u → w.cell? ((⟨g, 0, none⟩ : Addr).add j) = some u := hown.cells (g := g) rfl
  refine ⟨v', w', hr, ho, hg, ?_, ?_⟩
  all_goals
    obtain ⟨hxl, h2⟩ := hown
    rcases h2 with ⟨h2, _⟩ | ⟨g', cap', cur, h', hbg, hgg, hnc, hcm, hcs, htake⟩
    · simp at h2
    simp only [Value.slice.injEq, Option.some.injEq, Addr.mk.injEq, and_true, true_and] at h'
    obtain ⟨rfl, rfl⟩ := h'
    by_cases hroom : n + m ≤ cap
    · have hfit : n * i.size + news.length ≤ cur.size := by rw [hl, hcs, hsz, ← Nat.add_mul]; exact Nat.mul_le_mul_right _ hroom
      have hr2 := run_append_room (P := P) w T ty e i E.under hi g n cap cur hgg ad m c news (by rw [hsz]; exact hl) hnews h1 hroom hfit
      rw [hr] at hr2
      injection hr2 with e1 e2
      subst e1 e2
      first
      | exact .inl rfl
      | intro j u hj
        have hjx : j < xs.length := (List.getElem?_eq_some_iff.1 hj).1
        have hcell : (⟨g, 0, none⟩ : Addr).add j = ⟨g, j, none⟩ := by
          unfold Addr.add
          by_cases h0 : j = 0
          · rw [if_pos h0, h0]
          · rw [if_neg h0, Nat.zero_add]
        rw [hcell, cell_of_row _ g j _ _ _ (setRow_heap w g cur _ e _ hgg)]
        rw [hsz, htake]
        simp only [List.getElem?_toArray, List.append_assoc]
        rw [List.getElem?_append_left hjx]
        exact hj
    · have hr2 := run_append_grow (P := P) w T ty e i z E.under hi hz ⟨g, 0, none⟩ n cap xs (by rw [hsz]; exact hxl) holds ad m c news (by rw [hsz]; exact hl) hnews (by omega) (by omega) (growslice_fits (by omega) hbytes)
      rw [hr] at hr2
      injection hr2 with e1 e2
      subst e1 e2
      first
      | exact .inr rfl
      | intro j u hj
        have hgl : g < w.heap.size := (Array.getElem?_eq_some_iff.1 hgg).1
        refine (World.cell?_of_block ?_).trans (holds j u hj)
        have hbk : ((⟨g, 0, none⟩ : Addr).add j).block = g := by unfold Addr.add; split <;> rfl
        rw [hbk]
        first | exact heap_alloc_old w.drew _ hgl | exact heap_alloc_old w.drew _ g hgl
theorem wpK1 {o : Oper} {a : Act} {K : Act → World → Prop} {Q : Exit → Act → World → Prop} {w : World} (E : ElemT P T e k z) (s x : Operand)
    (ho : o.op = .call { callee := .builtin .append, args := #[s, x], argTypes := #[T, T] })
    (base g n cap : Nat) (xs : List Value) (hs : a.eval s = .slice (some ⟨g, 0, none⟩) n cap) (hown : w.ownsRow base e k (.slice (some ⟨g, 0, none⟩) n cap) n xs) (ad : Addr) (m c : Nat) (news : List Value) (hx : a.eval x = .slice (some ad) m c)
    (hl : news.length = m * k) (hnews : ∀ j u, news[j]? = some u → w.cell? (ad.add j) = some u) (h1 : ∀ u ∈ news, u.oneCell' = true) (hlen : n + m ≤ 4000000) (hbase : base ≤ w.heap.size)
    (h : ∀ v' w', Grew w w' base e k g n m v' xs news → K (a.put o.dst v') w') : o.wp P a w K Q := by
  obtain ⟨v', w', hr, h2⟩ := run_grew (P := P) w E o.type base g n cap xs hown ad m c news hl hnews h1 hlen hbase
  unfold Oper.wp execOp
  simp only [ho, resolve, invoke, builtin, Sem.run_bind, Sem.run_pure, Result.andThen_ok, List.map_toArray, List.map_cons, List.map_nil, hs, hx, hr]
  exact h v' w' h2
end
end Go.ApdG
