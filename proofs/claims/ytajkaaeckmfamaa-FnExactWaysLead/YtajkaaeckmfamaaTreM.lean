/- A tree of nodes by bits, without Go. The conditions stand at the theorems. -/
import Derived.Test.YtajkaaeckmfamaaMathH
namespace Go.TreM
open Go.BlockM
/-- The bit of an address at a place. -/
def bitN (a : Int) (p : Nat) : Nat := (a / pw (31 - p) % 2).toNat
theorem bitN_lt (a : Int) (p : Nat) : bitN a p < 2 := by unfold bitN; omega
theorem pre_next (a : Int) (d : Nat) (hd : d < 32) : a / pw (32 - ((d + 1 : Nat) : Int)) = 2 * (a / pw (32 - (d : Int))) + (bitN a d : Nat) := by
  have e1 : (32 : Int) - ((d + 1 : Nat) : Int) = 31 - (d : Int) := by omega
  have e2 : pw (32 - (d : Int)) = pw (31 - (d : Int)) * 2 := by
    rw [← pw_succ (31 - (d : Int)) (by omega)]
    congr 1
    omega
  have e3 : a / (pw (31 - (d : Int)) * 2) = a / pw (31 - (d : Int)) / 2 := by
    rw [Int.ediv_ediv_of_nonneg (by have := pw_pos (31 - (d : Int)); omega)]
  rw [e1, e2, e3]
  unfold bitN
  omega
/-- The node to which the first bits of an address lead. -/
def nd (T : Nat → Nat → Int) (a : Int) : Nat → Option Nat
  | 0 => some 0
  | d + 1 => match nd T a d with
    | none => none
    | some i => if T i (bitN a d) = 0 then none else some (T i (bitN a d)).toNat
theorem nd_step {T : Nat → Nat → Int} {a : Int} {d i : Nat} (h : nd T a d = some i) : nd T a (d + 1) = if T i (bitN a d) = 0 then none else some (T i (bitN a d)).toNat := by
  show (match nd T a d with | none => none | some i => _) = _
  rw [h]
theorem nd_none {T : Nat → Nat → Int} {a : Int} {d : Nat} (h : nd T a d = none) : nd T a (d + 1) = none := by
  show (match nd T a d with | none => none | some i => _) = _
  rw [h]
theorem nd_none_more {T : Nat → Nat → Int} {a : Int} {d : Nat} (h : nd T a d = none) : ∀ k, nd T a (d + k) = none
  | 0 => h
  | k + 1 => nd_none (nd_none_more h k)
structure Inv (T : Nat → Nat → Int) (n : Nat) (L : Nat → Nat × Int) : Prop where
  pos : 0 < n
  root : L 0 = (0, 0)
  kid : ∀ i, i < n → ∀ s, s < 2 → T i s = 0 ∨ (0 < T i s ∧ T i s < n ∧ L (T i s).toNat = ((L i).1 + 1, 2 * (L i).2 + (s : Int)))
theorem nd_lab {T : Nat → Nat → Int} {n : Nat} {L : Nat → Nat × Int} (I : Inv T n L) {a : Int} (h0 : 0 ≤ a) (h1 : a ≤ 4294967295) :
    ∀ d, d ≤ 32 → ∀ i, nd T a d = some i → i < n ∧ L i = (d, a / pw (32 - (d : Int)))
  | 0, _, i, h => by
    obtain rfl : 0 = i := Option.some.inj h
    refine ⟨I.pos, ?_⟩
    rw [I.root]
    have : a / pw (32 - ((0 : Nat) : Int)) = 0 := by
      have e : pw (32 - ((0 : Nat) : Int)) = 4294967296 := pw_32
      rw [e]
      omega
    rw [this]
  | d + 1, hd, i, h => by
    cases hp : nd T a d with
    | none => rw [nd_none hp] at h; cases h
    | some j =>
      obtain ⟨hj, hL⟩ := nd_lab I h0 h1 d (by omega) j hp
      rw [nd_step hp] at h
      rcases I.kid j hj (bitN a d) (bitN_lt a d) with hk | ⟨k1, k2, k3⟩
      · rw [if_pos hk] at h; cases h
      · rw [if_neg (by omega)] at h
        obtain rfl := Option.some.inj h
        refine ⟨by omega, ?_⟩
        rw [k3, hL, pre_next a d (by omega)]
theorem nd_pre {T : Nat → Nat → Int} {a b : Int} : ∀ d : Nat, d ≤ 32 → a / pw (32 - (d : Int)) = b / pw (32 - (d : Int)) → nd T a d = nd T b d
  | 0, _, _ => rfl
  | d + 1, hd, h => by
    rw [pre_next a d (by omega), pre_next b d (by omega)] at h
    have ha := bitN_lt a d
    have hb := bitN_lt b d
    have e1 : bitN a d = bitN b d := by omega
    have e2 : a / pw (32 - (d : Int)) = b / pw (32 - (d : Int)) := by omega
    have e3 := nd_pre (T := T) d (by omega) e2
    show (match nd T a d with | none => none | some i => _) = (match nd T b d with | none => none | some i => _)
    rw [e3, e1]
def hopAt (T : Nat → Nat → Int) (a : Int) (d : Nat) : Int := match nd T a d with
  | none => -1
  | some i => T i 2
theorem hop_some {T : Nat → Nat → Int} {a : Int} {d i : Nat} (h : nd T a d = some i) : hopAt T a d = T i 2 := by unfold hopAt; rw [h]
theorem hop_none {T : Nat → Nat → Int} {a : Int} {d : Nat} (h : nd T a d = none) : hopAt T a d = -1 := by unfold hopAt; rw [h]
def upd (T : Nat → Nat → Int) (k j : Nat) (x : Int) : Nat → Nat → Int := fun i m => if i = k ∧ m = j then x else T i m
/-- A new node, behind all others, as the kid of one. -/
def lnk (T : Nat → Nat → Int) (i s n : Nat) : Nat → Nat → Int := fun k j => if k = n then (if j = 2 then -1 else 0) else upd T i s n k j
theorem lnk_old {T : Nat → Nat → Int} {i s n k j : Nat} (hk : k < n) (h : ¬(k = i ∧ j = s)) : lnk T i s n k j = T k j := by
  unfold lnk upd
  rw [if_neg (by omega), if_neg h]
theorem lnk_at {T : Nat → Nat → Int} {i s n : Nat} (hi : i < n) : lnk T i s n i s = n := by
  unfold lnk upd
  rw [if_neg (by omega), if_pos ⟨rfl, rfl⟩]
theorem lnk_new {T : Nat → Nat → Int} {i s n j : Nat} (hj : j < 2) : lnk T i s n n j = 0 := by
  unfold lnk
  rw [if_pos rfl, if_neg (by omega)]
theorem lnk_inv {T : Nat → Nat → Int} {n i s : Nat} {L : Nat → Nat × Int} (I : Inv T n L) (hi : i < n) (hs : s < 2) (h0 : T i s = 0) :
    Inv (lnk T i s n) (n + 1) (fun k => if k = n then ((L i).1 + 1, 2 * (L i).2 + (s : Int)) else L k) := by
  have hp := I.pos
  refine ⟨by omega, by show (if 0 = n then _ else L 0) = _; rw [if_neg (by omega)]; exact I.root, fun k hk j hj => ?_⟩
  by_cases hkn : k = n
  · subst hkn
    exact .inl (lnk_new hj)
  · by_cases hc : k = i ∧ j = s
    · obtain ⟨rfl, rfl⟩ := hc
      right
      rw [lnk_at hi]
      refine ⟨by omega, by omega, ?_⟩
      show (if ((n : Int)).toNat = n then _ else _) = _
      rw [if_pos (by omega), if_neg hkn]
    · rw [lnk_old (by omega) hc]
      rcases I.kid k (by omega) j hj with h | ⟨k1, k2, k3⟩
      · exact .inl h
      · refine .inr ⟨k1, by omega, ?_⟩
        show (if (T k j).toNat = n then _ else L _) = _
        rw [if_neg (by omega), k3]
        show _ = ((if k = n then _ else L k).1 + 1, 2 * (if k = n then _ else L k).2 + (j : Int))
        rw [if_neg hkn]
theorem lnk_nd {T : Nat → Nat → Int} {n i s : Nat} {L : Nat → Nat × Int} (I : Inv T n L) (hi : i < n) (hs : s < 2) (h0 : T i s = 0) {a : Int} (a0 : 0 ≤ a) (a1 : a ≤ 4294967295) :
    ∀ d, d ≤ 32 → nd (lnk T i s n) a d = nd T a d ∨ (nd T a d = none ∧ nd (lnk T i s n) a d = some n)
  | 0, _ => .inl rfl
  | d + 1, hd => by
    have hp := I.pos
    rcases lnk_nd I hi hs h0 a0 a1 d (by omega) with h | ⟨h1, h2⟩
    · cases hn : nd T a d with
      | none =>
        rw [hn] at h
        exact .inl (by rw [nd_none h, nd_none hn])
      | some j =>
        rw [hn] at h
        have hj := (nd_lab I a0 a1 d (by omega) j hn).1
        rw [nd_step h, nd_step hn]
        by_cases hc : j = i ∧ bitN a d = s
        · obtain ⟨rfl, e⟩ := hc
          rw [e, lnk_at hi, h0]
          right
          refine ⟨if_pos rfl, ?_⟩
          rw [if_neg (by omega)]
          congr 1
        · rw [lnk_old hj hc]
          exact .inl rfl
    · left
      rw [nd_none h1, nd_step h2, lnk_new (bitN_lt a d), if_pos rfl]
theorem lnk_hop {T : Nat → Nat → Int} {n i s : Nat} {L : Nat → Nat × Int} (I : Inv T n L) (hi : i < n) (hs : s < 2) (h0 : T i s = 0) {a : Int} (a0 : 0 ≤ a) (a1 : a ≤ 4294967295) (d : Nat) (hd : d ≤ 32) :
    hopAt (lnk T i s n) a d = hopAt T a d := by
  rcases lnk_nd I hi hs h0 a0 a1 d hd with h | ⟨h1, h2⟩
  · cases hn : nd T a d with
    | none => rw [hn] at h; rw [hop_none h, hop_none hn]
    | some j =>
      rw [hn] at h
      rw [hop_some h, hop_some hn]
      exact lnk_old (nd_lab I a0 a1 d hd j hn).1 (by omega)
  · rw [hop_none h1, hop_some h2]
    unfold lnk
    simp
theorem sh_nd {T : Nat → Nat → Int} {i : Nat} {h a : Int} : ∀ d, nd (upd T i 2 h) a d = nd T a d
  | 0 => rfl
  | d + 1 => by
    have e := sh_nd (T := T) (i := i) (h := h) (a := a) d
    cases hn : nd T a d with
    | none => rw [hn] at e; rw [nd_none e, nd_none hn]
    | some j =>
      rw [hn] at e
      have hb := bitN_lt a d
      have e2 : upd T i 2 h j (bitN a d) = T j (bitN a d) := by unfold upd; rw [if_neg (by omega)]
      rw [nd_step e, nd_step hn, e2]
theorem sh_inv {T : Nat → Nat → Int} {n i : Nat} {h : Int} {L : Nat → Nat × Int} (I : Inv T n L) : Inv (upd T i 2 h) n L := by
  refine ⟨I.pos, I.root, fun k hk s hs => ?_⟩
  have e : upd T i 2 h k s = T k s := by unfold upd; rw [if_neg (by omega)]
  rw [e]
  exact I.kid k hk s hs
/-- What a tree of n nodes says. -/
def TreeIs (T : Nat → Nat → Int) (n : Nat) (f : Int → Nat → Int) : Prop := ∃ L, Inv T n L ∧ ∀ a, 0 ≤ a → a ≤ 4294967295 → ∀ d, d ≤ 32 → hopAt T a d = f a d
def turnF (f : Int → Nat → Int) (b c h : Int) : Int → Nat → Int := fun a d => if (d : Int) = c ∧ a / pw (32 - (d : Int)) = b / pw (32 - (d : Int)) then h else f a d
theorem turn_is {T : Nat → Nat → Int} {n i : Nat} {f : Int → Nat → Int} {b h : Int} {c : Nat} (I : TreeIs T n f) (b0 : 0 ≤ b) (b1 : b ≤ 4294967295) (hc : c ≤ 32) (hn : nd T b c = some i) :
    TreeIs (upd T i 2 h) n (turnF f b c h) := by
  obtain ⟨L, I, hf⟩ := I
  refine ⟨L, sh_inv I, fun a a0 a1 d hd => ?_⟩
  unfold turnF
  by_cases hcond : (d : Int) = (c : Int) ∧ a / pw (32 - (d : Int)) = b / pw (32 - (d : Int))
  · rw [if_pos hcond]
    have e : d = c := by omega
    subst e
    rw [hop_some (i := i) (by rw [sh_nd, nd_pre d hd hcond.2, hn])]
    unfold upd
    rw [if_pos ⟨rfl, rfl⟩]
  · rw [if_neg hcond, ← hf a a0 a1 d hd]
    cases hm : nd T a d with
    | none => rw [hop_none hm, hop_none (by rw [sh_nd, hm])]
    | some j =>
      rw [hop_some hm, hop_some (i := j) (by rw [sh_nd, hm])]
      unfold upd
      rw [if_neg]
      rintro ⟨rfl, _⟩
      have e1 := (nd_lab I a0 a1 d hd j hm).2
      have e2 := (nd_lab I b0 b1 c hc j hn).2
      rw [e1] at e2
      simp only [Prod.mk.injEq] at e2
      obtain ⟨rfl, e3⟩ := e2
      exact hcond ⟨rfl, e3⟩
theorem lnk_is {T : Nat → Nat → Int} {n i s : Nat} {f : Int → Nat → Int} (I : TreeIs T n f) (hi : i < n) (hs : s < 2) (h0 : T i s = 0) : TreeIs (lnk T i s n) (n + 1) f := by
  obtain ⟨L, I, hf⟩ := I
  exact ⟨_, lnk_inv I hi hs h0, fun a a0 a1 d hd => by rw [lnk_hop I hi hs h0 a0 a1 d hd, hf a a0 a1 d hd]⟩
theorem lnk_path {T : Nat → Nat → Int} {n i : Nat} {f : Int → Nat → Int} {b : Int} {d : Nat} (I : TreeIs T n f) (b0 : 0 ≤ b) (b1 : b ≤ 4294967295) (hd : d < 32) (hn : nd T b d = some i) (h0 : T i (bitN b d) = 0) :
    nd (lnk T i (bitN b d) n) b (d + 1) = some n := by
  obtain ⟨L, I, hf⟩ := I
  have hi := (nd_lab I b0 b1 d (by omega) i hn).1
  have hp := I.pos
  rcases lnk_nd I hi (bitN_lt b d) h0 b0 b1 d (by omega) with h | ⟨h1, _⟩
  · rw [hn] at h
    rw [nd_step h, lnk_at hi, if_neg (by omega)]
    congr 1
  · rw [hn] at h1; cases h1
theorem nd_lt {T : Nat → Nat → Int} {n : Nat} {f : Int → Nat → Int} (I : TreeIs T n f) {a : Int} (h0 : 0 ≤ a) (h1 : a ≤ 4294967295) {d i : Nat} (hd : d ≤ 32) (h : nd T a d = some i) : i < n := by
  obtain ⟨L, I, _⟩ := I
  exact (nd_lab I h0 h1 d hd i h).1
theorem kid_lt {T : Nat → Nat → Int} {n : Nat} {f : Int → Nat → Int} (I : TreeIs T n f) {i s : Nat} (hi : i < n) (hs : s < 2) : 0 ≤ T i s ∧ T i s < n := by
  obtain ⟨L, I, _⟩ := I
  have := I.pos
  rcases I.kid i hi s hs with h | h <;> omega
/-- The last that is said on the way down. -/
def ldF (g : Nat → Int) : Nat → Int
  | 0 => -1
  | k + 1 => if g k = -1 then ldF g k else g k
theorem ldF_skip {g : Nat → Int} {m : Nat} : ∀ k, (∀ d, m ≤ d → d < m + k → g d = -1) → ldF g (m + k) = ldF g m
  | 0, _ => rfl
  | k + 1, h => by
    show (if g (m + k) = -1 then ldF g (m + k) else g (m + k)) = _
    rw [if_pos (h (m + k) (by omega) (by omega))]
    exact ldF_skip k fun d h1 h2 => h d h1 (by omega)
theorem ldF_congr {g g' : Nat → Int} : ∀ m, (∀ d, d < m → g d = g' d) → ldF g m = ldF g' m
  | 0, _ => rfl
  | k + 1, h => by
    show (if g k = -1 then ldF g k else g k) = (if g' k = -1 then ldF g' k else g' k)
    rw [h k (by omega), ldF_congr k fun d hd => h d (by omega)]
end Go.TreM
