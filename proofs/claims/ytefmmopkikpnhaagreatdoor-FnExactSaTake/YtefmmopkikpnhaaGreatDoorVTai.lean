/- What is proved: the contracts of Tai, one behind the other. The conditions stand at each theorem. -/
import Derived.Test.YtefmmopkikpnhaaGreatDoorVBas
namespace Go.LatT
open Go.RowKit
section
variable {P : Program} {C : World → Prop} {md : Region.Mode}
/-- What stands in the list, so does all that it waits for. -/
def Clo (md : Region.Mode) (ops : Array Oper) (listed : Array Bool) : Prop := ∀ j o, ops[j]? = some o → listed.getD j false = true → ∀ e ∈ o.after, Region.binds md e = true → listed.getD e.on false = true
/-- An operation waits, by others between, for each ahead of it. -/
def Wts (md : Region.Mode) (ops : Array Oper) (i : Nat) : Prop := ∀ k, k < i → ∃ j oj, k < j ∧ j ≤ i ∧ ops[j]? = some oj ∧ ∃ e ∈ oj.after, Region.binds md e = true ∧ e.on = k
theorem Clo.all {ops : Array Oper} {listed : Array Bool} {i : Nat} (hc : Clo md ops listed) (hi : i ∈ Region.ready md ops listed) (hw : Wts md ops i) : ∀ k, k < i → listed.getD k false = true := by
  obtain ⟨_, o, ho, hd⟩ := mem_ready.1 hi
  have key : ∀ d k, k < i → i - 1 - k ≤ d → listed.getD k false = true := by
    intro d
    induction d with
    | zero =>
      intro k hk hd0
      obtain ⟨j, oj, h1, h2, h3, e, he, hb, hon⟩ := hw k hk
      have : j = i := by omega
      subst this
      obtain rfl : oj = o := Option.some.inj (h3.symm.trans ho)
      have := hd e he hb
      rwa [hon] at this
    | succ d ih =>
      intro k hk hd0
      obtain ⟨j, oj, h1, h2, h3, e, he, hb, hon⟩ := hw k hk
      by_cases hji : j = i
      · subst hji
        obtain rfl : oj = o := Option.some.inj (h3.symm.trans ho)
        have := hd e he hb
        rwa [hon] at this
      · have h4 := ih j (by omega) (by omega)
        have := hc j oj h3 h4 e he hb
        rwa [hon] at this
  exact fun k hk => key (i - 1 - k) k hk (Nat.le_refl _)
theorem Clo.set {ops : Array Oper} {listed : Array Bool} {i : Nat} (hc : Clo md ops listed) (hi : i ∈ Region.ready md ops listed) (hs : listed.size = ops.size) : Clo md ops (listed.setIfInBounds i true) := by
  obtain ⟨_, o, ho, hd⟩ := mem_ready.1 hi
  have hil : i < listed.size := by rw [hs]; exact (Array.getElem?_eq_some_iff.1 ho).1
  intro j oj hoj hj e he hb
  by_cases hei : i = e.on
  · rw [← hei]; simp [hil]
  · rw [getD_set_ne false hei]
    by_cases hji : i = j
    · subst hji
      obtain rfl : oj = o := Option.some.inj (hoj.symm.trans ho)
      exact hd e he hb
    · rw [getD_set_ne false hji] at hj
      exact hc j oj hoj hj e he hb
end
section
variable {P : Program}
end
end Go.LatT

