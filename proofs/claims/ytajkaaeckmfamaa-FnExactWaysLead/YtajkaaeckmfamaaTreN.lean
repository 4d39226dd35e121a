/- Where ways lead: what a tree says and what a list says, without Go. The conditions stand at the theorems. -/
import Derived.Test.YtajkaaeckmfamaaTreD
namespace Go.Proofs.Ytajkaaeckmfamaa
open Go.RowKit Go.LatT Go.BlockM Go.OpnT Go.ApdG Go.TreM
set_option linter.unusedVariables false
set_option linter.unusedSimpArgs false
/-- A way has an address. -/
def hasB (E : Nat → Nat → Int) (k : Nat) (a : Int) : Bool := inB a (E k 0) (E k 0 + pw (32 - E k 1) - 1)
/-- The bits and the hop of the first k ways for an address. -/
def spF (E : Nat → Nat → Int) (a : Int) : Nat → Int × Int
  | 0 => (-1, -1)
  | k + 1 => if hasB E k a = true ∧ (spF E a k).2 < E k 1 then (E k 2, E k 1) else spF E a k
theorem way_ok {E : Nat → Nat → Int} {k : Nat} (h : wbad E k = false) : okB (E k 0) (E k 1) = true ∧ 0 ≤ E k 2 := by
  have h1 : wokB (E k 0) (E k 1) (E k 2) = true := by cases k <;> simp [wbad] at h <;> simp [h]
  simp only [wokB, Bool.and_eq_true] at h1
  refine ⟨h1.1, ?_⟩
  have := h1.2
  simp [inB] at this
  exact this.1
theorem way_next {E : Nat → Nat → Int} {k : Nat} (h : wbad E (k + 1) = false) : aheadB (E k 0) (E k 1) (E (k + 1) 0) (E (k + 1) 1) = true := by
  simp [wbad] at h
  exact h.2
theorem ahead_iff {a b c d : Int} : aheadB a b c d = true ↔ a < c ∨ (a = c ∧ b < d) := by
  unfold aheadB
  by_cases h : a = c
  · rw [if_pos h]; simp; omega
  · rw [if_neg h]; simp; omega
theorem way_apart {E : Nat → Nat → Int} {n : Nat} (hok : ∀ i, i < n → wbad E i = false) : ∀ k, k < n → ∀ j, j < k → E j 0 < E k 0 ∨ (E j 0 = E k 0 ∧ E j 1 < E k 1)
  | 0, _, j, hj => by omega
  | k + 1, hk, j, hj => by
    have h1 := ahead_iff.1 (way_next (hok (k + 1) hk))
    by_cases e : j = k
    · subst e; exact h1
    · have h2 := way_apart hok k (by omega) j (by omega)
      omega
theorem has_pre {E : Nat → Nat → Int} {k : Nat} {a : Int} {d : Nat} (hok : okB (E k 0) (E k 1) = true) (hd : (d : Int) = E k 1) : hasB E k a = true ↔ a / pw (32 - (d : Int)) = E k 0 / pw (32 - (d : Int)) := by
  obtain ⟨a0, a1, b0, b1, hm⟩ := ok_of hok
  rw [hd]
  unfold hasB inB
  rw [decide_eq_true_iff]
  have hp := pw_pos (32 - E k 1)
  generalize pw (32 - E k 1) = s at hp hm
  generalize E k 0 = x at *
  have e1 : x = x / s * s := by have := Int.emod_add_mul_ediv x s; rw [hm] at this; rw [Int.mul_comm] at this; omega
  have e2 := Int.emod_add_mul_ediv a s
  have e3 := Int.emod_nonneg a (show s ≠ 0 by omega)
  have e4 := Int.emod_lt_of_pos a (show 0 < s by omega)
  constructor
  · rintro ⟨h1, h2⟩
    have h3 : x / s ≤ a / s := Int.ediv_le_ediv (by omega) h1
    have h4 : a / s < x / s + 1 := by
      apply Int.ediv_lt_of_lt_mul (by omega)
      rw [Int.add_mul]
      omega
    omega
  · intro h
    have e5 : s * (a / s) = x := by rw [h, Int.mul_comm]; exact e1.symm
    omega
/-- What holds of the tree's say and of the list's at once. -/
structure WI (E : Nat → Nat → Int) (a : Int) (k : Nat) : Prop where
  lo : -1 ≤ (spF E a k).2
  hi : (spF E a k).2 ≤ 32
  up : ∀ d : Nat, (spF E a k).2 < (d : Int) → waysF E k a d = -1
  none : (spF E a k).2 = -1 → (spF E a k).1 = -1
  at_ : ∀ d : Nat, (d : Int) = (spF E a k).2 → waysF E k a d = (spF E a k).1 ∧ 0 ≤ (spF E a k).1 ∧ ∃ j, j < k ∧ E j 1 = (spF E a k).2 ∧ hasB E j a = true
theorem wi {E : Nat → Nat → Int} {n : Nat} {a : Int} (hok : ∀ i, i < n → wbad E i = false) : ∀ k, k ≤ n → WI E a k
  | 0, _ => ⟨by simp [spF], by simp [spF], fun d _ => rfl, fun _ => rfl, fun d hd => by have h2 : (d : Int) = -1 := hd; omega⟩
  | k + 1, hk => by
    have H : WI E a k := wi hok k (by omega)
    obtain ⟨ok1, h0⟩ := way_ok (hok k (by omega))
    obtain ⟨a0, a1, b0, b1, _⟩ := ok_of ok1
    have st : ∀ d : Nat, waysF E (k + 1) a d = if (d : Int) = E k 1 ∧ a / pw (32 - (d : Int)) = E k 0 / pw (32 - (d : Int)) then E k 2 else waysF E k a d := fun d => rfl
    have st2 : ∀ d : Nat, waysF E (k + 1) a d = if (d : Int) = E k 1 ∧ hasB E k a = true then E k 2 else waysF E k a d := by
      intro d
      rw [st d]
      by_cases hd : (d : Int) = E k 1
      · have := has_pre (a := a) ok1 hd
        by_cases hh : hasB E k a = true
        · rw [if_pos ⟨hd, this.1 hh⟩, if_pos ⟨hd, hh⟩]
        · rw [if_neg (fun x => hh (this.2 x.2)), if_neg (fun x => hh x.2)]
      · rw [if_neg (fun x => hd x.1), if_neg (fun x => hd x.1)]
    by_cases hc : hasB E k a = true ∧ (spF E a k).2 < E k 1
    · have e : spF E a (k + 1) = (E k 2, E k 1) := by rw [spF, if_pos hc]
      refine ⟨by rw [e]; show -1 ≤ E k 1; omega, by rw [e]; exact b1, fun d hd => ?_, fun hx => ?_, fun d hd => ?_⟩
      · rw [e] at hd
        rw [st2 d, if_neg (fun x => by have := x.1; simp at hd; omega)]
        exact H.up d (by simp at hd; omega)
      · rw [e] at hx
        simp at hx
        omega
      · rw [e] at hd ⊢
        rw [st2 d, if_pos ⟨hd, hc.1⟩]
        exact ⟨rfl, h0, k, by omega, rfl, hc.1⟩
    · have e : spF E a (k + 1) = spF E a k := by rw [spF, if_neg hc]
      by_cases hh : hasB E k a = true
      · have hle : E k 1 ≤ (spF E a k).2 := by
          apply Classical.byContradiction
          intro hx
          exact hc ⟨hh, by omega⟩
        have hne : E k 1 ≠ (spF E a k).2 := by
          intro he
          obtain ⟨_, _, j, hj, ej, hj2⟩ := H.at_ (E k 1).toNat (by omega)
          obtain ⟨okj, _⟩ := way_ok (hok j (by omega))
          have p1 := (has_pre (a := a) (d := (E k 1).toNat) ok1 (by omega)).1 hh
          have p2 := (has_pre (a := a) (d := (E k 1).toNat) okj (by omega)).1 hj2
          have m1 := (ok_of ok1).2.2.2.2
          have m2 := (ok_of okj).2.2.2.2
          have eb : E j 1 = E k 1 := by omega
          rw [eb] at m2
          rw [show ((E k 1).toNat : Int) = E k 1 by omega] at p1 p2
          have q1 := Int.emod_add_mul_ediv (E k 0) (pw (32 - E k 1))
          have q2 := Int.emod_add_mul_ediv (E j 0) (pw (32 - E k 1))
          rw [m1, ← p1] at q1
          rw [m2, ← p2] at q2
          have := way_apart hok k (by omega) j hj
          omega
        refine ⟨by rw [e]; exact H.lo, by rw [e]; exact H.hi, fun d hd => ?_, by rw [e]; exact H.none, fun d hd => ?_⟩
        · rw [e] at hd
          rw [st2 d, if_neg (fun x => by have := x.1; omega)]
          exact H.up d hd
        · rw [e] at hd ⊢
          obtain ⟨p1, p2, j, p3, p4⟩ := H.at_ d hd
          rw [st2 d, if_neg (fun x => by have := x.1; omega)]
          exact ⟨p1, p2, j, by omega, p4⟩
      · have same : ∀ d : Nat, waysF E (k + 1) a d = waysF E k a d := fun d => by rw [st2 d, if_neg (fun x => hh x.2)]
        refine ⟨by rw [e]; exact H.lo, by rw [e]; exact H.hi, fun d hd => by rw [same]; rw [e] at hd; exact H.up d hd, by rw [e]; exact H.none, fun d hd => ?_⟩
        rw [e] at hd ⊢
        obtain ⟨p1, p2, j, p3, p4⟩ := H.at_ d hd
        rw [same]
        exact ⟨p1, p2, j, by omega, p4⟩
/-- The tree and the list lead alike. -/
theorem lead_same {E : Nat → Nat → Int} {n : Nat} {a : Int} (hok : ∀ i, i < n → wbad E i = false) : ldF (waysF E n a) 33 = (spF E a n).1 := by
  have H := wi (a := a) hok n (Nat.le_refl _)
  have lo := H.lo
  have hi := H.hi
  by_cases h : (spF E a n).2 = -1
  · have e := ldF_skip (g := waysF E n a) (m := 0) 33 (fun d _ _ => H.up d (by omega))
    rw [show 0 + 33 = 33 from rfl] at e
    rw [e, H.none h]
    rfl
  · obtain ⟨d, hd⟩ := Int.eq_ofNat_of_zero_le (show 0 ≤ (spF E a n).2 by omega)
    obtain ⟨p1, p2, _⟩ := H.at_ d hd.symm
    have e := ldF_skip (g := waysF E n a) (m := d + 1) (33 - (d + 1)) (fun k h1 _ => H.up k (by omega))
    rw [show d + 1 + (33 - (d + 1)) = 33 by omega] at e
    rw [e]
    show (if waysF E n a d = -1 then _ else waysF E n a d) = _
    rw [if_neg (by omega), p1]
end Go.Proofs.Ytajkaaeckmfamaa
