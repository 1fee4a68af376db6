/- An Engine's lists as they are owned. -/
import Derived.Test.YtibfclfidaofkasEngOpen
import Derived.Test.YtibfclfidaofkasGrpL
import Derived.Test.YtibfclfidaofkasGrpW
namespace Go.Proofs.Ytibfclfidaofkas
open Go.ChangeShapes Go.WideShapes Go.ChangeAt Go.RowKit
set_option maxRecDepth 100000
set_option linter.unusedVariables false
set_option linter.unusedSimpArgs false

/-- The lists of an Engine, owned: the Lend's in blocks from ll up to lh, the Places' from pl up to ph, the Conns' from kl up to kh; no block serves two. -/
structure EOwn (w : World) (ll lh pl ph kl kh : Nat) (sT sO sP vL vK : Value) (T O P : List Q4) (L : List F8) (K : List Kn) : Prop where
  l : LV w ll sT sO sP T O P
  lb : ∀ b, inL sT sO sP b → b < lh
  p : TV w pl ph vL L
  k : KV w kl kh vK K
  d1 : lh ≤ pl ∨ ph ≤ ll
  d2 : lh ≤ kl ∨ kh ≤ ll
  d3 : ph ≤ kl ∨ kh ≤ pl
  t1 : lh ≤ w.heap.size
  t2 : ph ≤ w.heap.size
  t3 : kh ≤ w.heap.size
section
variable {w w' : World} {ll lh pl ph kl kh : Nat} {sT sO sP vL vK : Value} {T O P : List Q4} {L : List F8} {K : List Kn}
theorem EOwn.next (h : EOwn w ll lh pl ph kl kh sT sO sP vL vK T O P L K) (hb : Below w.heap.size w w') : EOwn w' ll lh pl ph kl kh sT sO sP vL vK T O P L K :=
  have hs := hb.size
  ⟨h.l.next hb, h.lb, h.p.next hb, h.k.next hb, h.d1, h.d2, h.d3, Nat.le_trans h.t1 hs, Nat.le_trans h.t2 hs, Nat.le_trans h.t3 hs⟩
theorem EOwn.only {g : Nat} (h : EOwn w ll lh pl ph kl kh sT sO sP vL vK T O P L K) (o : Only g w w') (h1 : g < ll ∨ lh ≤ g) (h2 : g < pl ∨ ph ≤ g) (h3 : g < kl ∨ kh ≤ g) : EOwn w' ll lh pl ph kl kh sT sO sP vL vK T O P L K := by
  have hs := o.size
  have hp : OnlyP (fun k => k = g) w w' := ⟨o.os, o.tape, o.output, o.size, fun k hk hn => o.block k hk hn⟩
  have no : ∀ b, inL sT sO sP b → ¬ (b = g) := fun b hb e => by have := h.lb b hb; have := (h.l.lo hb).1; omega
  exact ⟨h.l.onlyP hp (fun b e => no b (.inl e)) (fun b e => no b (.inr (.inl e))) (fun b e => no b (.inr (.inr e))), h.lb, h.p.same hs (fun b a1 a2 a3 => o.block b a3 (by omega)), h.k.same hs (fun b a1 a2 a3 => o.block b a3 (by omega)), h.d1, h.d2, h.d3, Nat.le_trans h.t1 hs, Nat.le_trans h.t2 hs, Nat.le_trans h.t3 hs⟩
end
theorem EOwn.onlyI {w w' : World} {ll lh pl ph kl kh lo' hi' : Nat} {sT sO sP vL vK : Value} {T O P : List Q4} {L : List F8} {K : List Kn} (h : EOwn w ll lh pl ph kl kh sT sO sP vL vK T O P L K) (o : OnlyI lo' hi' w w') (h1 : lh ≤ lo' ∨ hi' ≤ ll) (h2 : ph ≤ lo' ∨ hi' ≤ pl) (h3 : kh ≤ lo' ∨ hi' ≤ kl) : EOwn w' ll lh pl ph kl kh sT sO sP vL vK T O P L K := by
  have hs := o.size
  have hp : OnlyP (fun k => lo' ≤ k ∧ k < hi') w w' := ⟨o.os, o.tape, o.output, o.size, fun k hk hn => o.block k hk (by omega)⟩
  have no : ∀ b, inL sT sO sP b → ¬ (lo' ≤ b ∧ b < hi') := fun b hb e => by have := h.lb b hb; have := (h.l.lo hb).1; omega
  exact ⟨h.l.onlyP hp (fun b e => no b (.inl e)) (fun b e => no b (.inr (.inl e))) (fun b e => no b (.inr (.inr e))), h.lb, h.p.same hs (fun b a1 a2 a3 => o.block b a3 (by omega)), h.k.same hs (fun b a1 a2 a3 => o.block b a3 (by omega)), h.d1, h.d2, h.d3, Nat.le_trans h.t1 hs, Nat.le_trans h.t2 hs, Nat.le_trans h.t3 hs⟩
/-- Somewhere from lo up to hi. -/
def Eng (w : World) (lo hi : Nat) (sT sO sP vL vK : Value) (T O P : List Q4) (L : List F8) (K : List Kn) : Prop := ∃ ll lh pl ph kl kh, (lo ≤ ll ∧ lo ≤ pl ∧ lo ≤ kl) ∧ (lh ≤ hi ∧ ph ≤ hi ∧ kh ≤ hi) ∧ EOwn w ll lh pl ph kl kh sT sO sP vL vK T O P L K
section
variable {w w' : World} {lo hi : Nat} {sT sO sP vL vK : Value} {T O P : List Q4} {L : List F8} {K : List Kn}
theorem Eng.next (h : Eng w lo hi sT sO sP vL vK T O P L K) (hb : Below w.heap.size w w') : Eng w' lo hi sT sO sP vL vK T O P L K := by
  obtain ⟨a, b, c, d, e, f, h1, h2, o⟩ := h
  exact ⟨a, b, c, d, e, f, h1, h2, o.next hb⟩
theorem Eng.wider {lo' hi' : Nat} (h : Eng w lo hi sT sO sP vL vK T O P L K) (hl : lo' ≤ lo) (hh : hi ≤ hi') : Eng w lo' hi' sT sO sP vL vK T O P L K := by
  obtain ⟨a, b, c, d, e, f, ⟨h1, h2, h3⟩, ⟨h4, h5, h6⟩, o⟩ := h
  exact ⟨a, b, c, d, e, f, ⟨Nat.le_trans hl h1, Nat.le_trans hl h2, Nat.le_trans hl h3⟩, ⟨Nat.le_trans h4 hh, Nat.le_trans h5 hh, Nat.le_trans h6 hh⟩, o⟩
theorem Eng.only {g : Nat} (h : Eng w lo hi sT sO sP vL vK T O P L K) (o : Only g w w') (hg : g < lo ∨ hi ≤ g) : Eng w' lo hi sT sO sP vL vK T O P L K := by
  obtain ⟨a, b, c, d, e, f, h1, h2, x⟩ := h
  exact ⟨a, b, c, d, e, f, h1, h2, x.only o (by omega) (by omega) (by omega)⟩
theorem Eng.onlyI {lo' hi' : Nat} (h : Eng w lo hi sT sO sP vL vK T O P L K) (o : OnlyI lo' hi' w w') (hg : hi ≤ lo' ∨ hi' ≤ lo) : Eng w' lo hi sT sO sP vL vK T O P L K := by
  obtain ⟨a, b, c, d, e, f, h1, h2, x⟩ := h
  exact ⟨a, b, c, d, e, f, h1, h2, x.onlyI o (by omega) (by omega) (by omega)⟩
end
end Go.Proofs.Ytibfclfidaofkas
