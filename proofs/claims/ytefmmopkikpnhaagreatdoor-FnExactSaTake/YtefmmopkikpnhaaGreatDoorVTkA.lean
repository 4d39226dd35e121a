/- What is proved: the contracts of TakA, one behind the other. The conditions stand at each theorem. -/
import Derived.Test.YtefmmopkikpnhaaGreatDoorVSnD
import Derived.Test.YtefmmopkikpnhaaGreatDoorVFrE
namespace Go.Proofs.YtefmmopkikpnhaaGreatDoor
open Go.RowKit Go.LatT Go.BlockM Go.PlainAid Go.OpnT Go.ApdG Go.BytM Go.AesM Go.RowQ Go.WinMath
set_option linter.unusedVariables false
set_option linter.unusedSimpArgs false
/-- The code of taking. -/
def tkK (x : SaV) (L : List Int) (now : Int) (t : ByteArray) : Int :=
  if fhB t = false then 1 else if fhN t 0 4 ≠ x.spi then 2 else if x.since + 2 * x.ticks ≤ now ∨ x.hard < fhN t 4 8 then 3 else if codeL x.top L (fhN t 4 8) = 2 then 4 else if codeL x.top L (fhN t 4 8) = 3 then 5 else if fgB x.key x.mac t = true then 0 else 6
/-- Keys with a top. -/
@[reducible] def topS (x : SaV) (T : Int) : SaV := ⟨x.spi, x.tun, x.key, x.mac, x.since, x.soft, x.hard, x.ticks, x.sent, T⟩
def tkX (x : SaV) (L : List Int) (now : Int) (t : ByteArray) : SaV := if tkK x L now t = 0 then topS x (topL x.top L (fhN t 4 8)) else x
def tkL (x : SaV) (L : List Int) (now : Int) (t : ByteArray) : List Int := if tkK x L now t = 0 then listL x.top L (fhN t 4 8) else L
def tkT (x : SaV) (L : List Int) (now : Int) (t : ByteArray) : ByteArray := if tkK x L now t = 0 then fgT x.key x.mac t else ⟨#[]⟩
/-- What keys that take answer. -/
def takP (x : SaV) (L : List Int) (now : Int) (t : ByteArray) (w : World) (e : Ending) (w' : World) : Prop := SaAns (tkX x L now t) (tkL x L now t) (tkT x L now t) (tkK x L now t) w e w'
/-- What keys in a block do when they take. -/
def TkB (g base : Nat) (v0 : Value) (x : SaV) (L : List Int) (now : Int) (t : ByteArray) (w : World) (e : Ending) (w' : World) : Prop :=
  ∃ v, e = .returned (.tuple #[.string (tkT x L now t), .int .i64 (tkK x L now t)]) ∧ SaBox w' g (tkX x L now t) v ∧ w'.ownsRow base 3 1 v (tkL x L now t).length (i64s (tkL x L now t)) ∧ Mv g w w' ∧ v.ownBlock ≠ some g ∧ (v.ownBlock = v0.ownBlock ∨ ∀ k, v.ownBlock = some k → w.heap.size ≤ k)
theorem tkK_no {x : SaV} {L : List Int} {now : Int} {t : ByteArray} {k : Int} (hk : tkK x L now t = k) (h0 : k ≠ 0) : tkX x L now t = x ∧ tkL x L now t = L ∧ tkT x L now t = ⟨#[]⟩ := by
  subst hk
  exact ⟨by unfold tkX; rw [if_neg h0], by unfold tkL; rw [if_neg h0], by unfold tkT; rw [if_neg h0]⟩
theorem takP_no {x : SaV} {L : List Int} {now : Int} {t : ByteArray} {w w' : World} {v : Value} {k : Int} (hk : tkK x L now t = k) (h0 : k ≠ 0) (ho : w'.ownsRow w.heap.size 3 1 v L.length (i64s L)) (hb : Below w.heap.size w w') : takP x L now t w (.returned (.tuple #[vSv x v, .string ⟨#[]⟩, .int .i64 k])) w' := by
  obtain ⟨e1, e2, e3⟩ := tkK_no hk h0
  unfold takP
  rw [e1, e2, e3, hk]
  exact ⟨v, rfl, ho, hb⟩
theorem takP_yes {x : SaV} {L : List Int} {now : Int} {t : ByteArray} {w w' : World} {v : Value} {T : Int} {M : List Int} {U : ByteArray} (hk : tkK x L now t = 0) (hT : topL x.top L (fhN t 4 8) = T) (hM : listL x.top L (fhN t 4 8) = M) (hU : fgT x.key x.mac t = U) (ho : w'.ownsRow w.heap.size 3 1 v M.length (i64s M)) (hb : Below w.heap.size w w') : takP x L now t w (.returned (.tuple #[vSv (topS x T) v, .string U, .int .i64 0])) w' := by
  subst hT hM hU
  have e1 : tkX x L now t = topS x (topL x.top L (fhN t 4 8)) := by unfold tkX; rw [if_pos hk]
  have e2 : tkL x L now t = listL x.top L (fhN t 4 8) := by unfold tkL; rw [if_pos hk]
  have e3 : tkT x L now t = fgT x.key x.mac t := by unfold tkT; rw [if_pos hk]
  unfold takP
  rw [e1, e2, e3, hk]
  exact ⟨v, rfl, ho, hb⟩
theorem TkB_no {g base : Nat} {x : SaV} {L : List Int} {now : Int} {t : ByteArray} {w w' : World} {v : Value} {k : Int} (hk : tkK x L now t = k) (h0 : k ≠ 0) (hB : SaBox w' g x v) (ho : w'.ownsRow base 3 1 v L.length (i64s L)) (hm : Mv g w w') (hn : v.ownBlock ≠ some g) : TkB g base v x L now t w (.returned (.tuple #[.string ⟨#[]⟩, .int .i64 k])) w' := by
  obtain ⟨e1, e2, e3⟩ := tkK_no hk h0
  unfold TkB
  rw [e1, e2, e3, hk]
  exact ⟨v, rfl, hB, ho, hm, hn, .inl rfl⟩
theorem TkB_yes {g base : Nat} {x : SaV} {L : List Int} {now : Int} {t : ByteArray} {w w' : World} {v : Value} {T : Int} {M : List Int} {U : ByteArray} (hk : tkK x L now t = 0) (hT : topL x.top L (fhN t 4 8) = T) (hM : listL x.top L (fhN t 4 8) = M) (hU : fgT x.key x.mac t = U) (hB : SaBox w' g (topS x T) v) (ho : w'.ownsRow base 3 1 v M.length (i64s M)) (hm : Mv g w w') (hn : v.ownBlock ≠ some g) (v0 : Value) (hnew : ∀ k, v.ownBlock = some k → w.heap.size ≤ k) : TkB g base v0 x L now t w (.returned (.tuple #[.string U, .int .i64 0])) w' := by
  subst hT hM hU
  have e1 : tkX x L now t = topS x (topL x.top L (fhN t 4 8)) := by unfold tkX; rw [if_pos hk]
  have e2 : tkL x L now t = listL x.top L (fhN t 4 8) := by unfold tkL; rw [if_pos hk]
  have e3 : tkT x L now t = fgT x.key x.mac t := by unfold tkT; rw [if_pos hk]
  unfold TkB
  rw [e1, e2, e3, hk]
  exact ⟨v, rfl, hB, ho, hm, hn, .inr hnew⟩
/-- What seeing a number leaves, by lists, its row by name. -/
def SeeR (T n : Int) (L : List Int) (w : World) (e : Ending) (w' : World) : Prop :=
  ∃ a c, e = .returned (.tuple #[.agg #[.int .i64 (topL T L n), .slice a (listL T L n).length c], .int .i64 (codeL T L n)]) ∧ w'.ownsRow w.heap.size 3 1 (.slice a (listL T L n).length c) (listL T L n).length (i64s (listL T L n)) ∧ Below w.heap.size w w'
theorem l7SeeR (T n : Int) (c : Nat) (L : List Int) (v : Value) (w : World) (hL : IL w v L) (hr : Rep T c L) :
    Calls Tryz.prog 122 #[.agg #[.int .i64 T, v], .int .i64 n] w (SeeR T n L w) := by
  refine (l7See_any T n c L v w hL hr).mono ?_
  rintro e w' ⟨v', m, rfl, ho, hb⟩
  have hm := owns_len ho
  subst hm
  obtain ⟨a', c', rfl⟩ := owns_form ho
  exact ⟨a', c', rfl, ho, hb⟩
theorem windowSeeR (T n : Int) (L : List Int) (v : Value) (w : World) (hL : IL w v L) (hl : L.length ≤ 1048576) (hw : WOk T L.length (gE L)) :
    Calls Tryz.prog 124 #[.agg #[.int .i64 T, v], .int .i64 n] w (SeeR T n L w) := by
  refine (windowSeeI T n v L w hL hl).mono ?_
  rintro e w' ⟨T', L', k', v', rfl, ho, hb, hr⟩
  rcases hr with ⟨h, _⟩ | ⟨_, rfl, rfl, rfl⟩
  · exact absurd hw h
  · obtain ⟨a', c', rfl⟩ := owns_form ho
    exact ⟨a', c', rfl, ho, hb⟩
theorem SaBox.set9 {w : World} {g : Nat} {x : SaV} {v : Value} (T : Int) (u : Value) (h : SaBox w g x v) : SaBox ((w.setCell ⟨g, 9, none⟩ (.int .i64 T)).setCell ⟨g, 10, none⟩ u) g (topS x T) u := by
  obtain ⟨l0, p0, p1, p2, p3, p4, p5, p6, p7, p8, p9, p10, pf⟩ := h
  exact ⟨by simpa using l0, by go_simp, by go_simp, by go_simp, by go_simp, by go_simp, by go_simp, by go_simp, by go_simp, by go_simp, by go_simp, by go_simp, fun o => by go_simp⟩
end Go.Proofs.YtefmmopkikpnhaaGreatDoor

