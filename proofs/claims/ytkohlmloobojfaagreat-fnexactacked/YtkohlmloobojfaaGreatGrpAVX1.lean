/- Lemmas on the way, of several texts: Blk, EngOwn, Pls, SpecFind, ImplBuckA, ConMarkF, ConMarkT, EngMark, ConTo, ConToS. -/
import Derived.Test.YtkohlmloobojfaaGreatGrpAV
import Derived.Test.YtkohlmloobojfaaGreatGrpAH
import Derived.Test.YtkohlmloobojfaaGreatGrpAJ
import Derived.Deep.CutRange
import Derived.Test.YtkohlmloobojfaaGreatGrpAF
import Derived.Test.YtkohlmloobojfaaGreatGrpAO
import Derived.Deep.RegionHeld3
import Derived.Deep.DeepCutAuto
import Derived.Test.YtkohlmloobojfaaGreatGrpAG
namespace Go.Proofs.YtkohlmloobojfaaGreat
open Go.ChangeShapes Go.WideShapes Go.ChangeAt Go.RowKit
set_option maxRecDepth 100000
set_option linter.unusedVariables false
set_option linter.unusedSimpArgs false
theorem OnlyP.two {p : Nat → Prop} {u v w : World} (h : OnlyP p u v) (k : OnlyP p v w) : OnlyP p u w := (h.trans k).weak (fun b e => e.elim id id)
theorem OnlyP.ofOnly {p : Nat → Prop} {g : Nat} {w w' : World} (h : Only g w w') (hg : p g) : OnlyP p w w' := ⟨h.os, h.tape, h.output, h.size, fun k hk hn => h.block k hk (fun e => hn (by rw [e]; exact hg))⟩
theorem OnlyP.ofO {p : Nat → Prop} {o : Option Nat} {w w' : World} (h : OnlyO o w w') (hg : ∀ g, o = some g → p g) : OnlyP p w w' := ⟨h.os, h.tape, h.output, h.size, fun k hk hn => h.block k hk (fun e => hn (hg k e))⟩
theorem OnlyP.ofI {p : Nat → Prop} {lo hi : Nat} {w w' : World} (h : OnlyI lo hi w w') (hg : ∀ g, lo ≤ g → g < hi → p g) : OnlyP p w w' := ⟨h.os, h.tape, h.output, h.size, fun k hk hn => h.block k hk (by
  by_cases h1 : lo ≤ k
  · by_cases h2 : k < hi
    · exact absurd (hg k h1 h2) hn
    · omega
  · omega)⟩
/-- Block g and those of the lists vs. -/
def inG (g : Nat) (vs : List Value) (b : Nat) : Prop := b = g ∨ ∃ u ∈ vs, elB u = some b
/-- The blocks of a list v of things whose lists are vs. -/
def inV : Value → List Value → Nat → Prop
  | .slice (some a) _ _, vs, b => vs ≠ [] ∧ inG a.block vs b
  | _, _, _ => False
theorem inV_nil (v : Value) (b : Nat) : ¬ inV v [] b := fun h => by
 unfold inV at h
 split at h
 · exact h.1 rfl
 · exact h
theorem inG_set {g i : Nat} {vs : List Value} {u : Value} {b : Nat} (h : inG g (vs.set i u) b) : inG g vs b ∨ elB u = some b := by
 rcases h with h | ⟨x, hx, e⟩
 · exact .inl (.inl h)
 · rcases List.mem_or_eq_of_mem_set hx with h | h
   · exact .inl (.inr ⟨x, h, e⟩)
   · rw [h] at e
     exact .inr e
theorem FO.sameG {w w' : World} {lo hi g : Nat} {vs : List Value} {fs : List F8} (h : FO w lo hi g fs.length vs fs) (hs : w.heap.size ≤ w'.heap.size) (hb : vs ≠ [] → ∀ b, inG g vs b → w'.heap[b]? = w.heap[b]?) : FO w' lo hi g fs.length vs fs := by
 by_cases hn : vs = []
 · have hl := h.len
   rw [hn] at hl
   have hf : fs = [] := List.eq_nil_of_length_eq_zero hl.symm
   subst hn hf
   exact ⟨h.g0, h.g1, Nat.le_trans h.top hs, h.len, h.le, (fun j hj => by simp at hj), (fun i hi' => by cases hi'), (fun i hi' => by cases hi'), h.far, h.apart⟩
 · have hb := hb hn
   have eg := hb g (.inl rfl)
   refine ⟨h.g0, h.g1, Nat.le_trans h.top hs, h.len, h.le, fun j hj => ?_, fun i hi' h' => ?_, fun i hi' h' => ?_, h.far, h.apart⟩
   · obtain ⟨⟨z, hz⟩, hf⟩ := h.any j hj
     exact ⟨⟨z, (World.cell?_of_block (a := ⟨g, j, none⟩) eg).trans hz⟩, (World.frozen?_of_block (a := ⟨g, j, none⟩) eg).trans hf⟩
   · obtain ⟨c0, c1, c2⟩ := h.got i hi' h'
     exact ⟨(World.cell?_of_block (a := ⟨g, i * 3, none⟩) eg).trans c0, (World.cell?_of_block (a := ⟨g, i * 3 + 1, none⟩) eg).trans c1, (World.cell?_of_block (a := ⟨g, i * 3 + 2, none⟩) eg).trans c2⟩
   · exact (h.own i hi' h').same hs (fun b e => hb b (.inr ⟨_, List.getElem_mem h', e⟩))
theorem KO.sameG {w w' : World} {lo hi g : Nat} {vs : List Value} {ks : List Kn} (h : KO w lo hi g ks.length vs ks) (hs : w.heap.size ≤ w'.heap.size) (hb : vs ≠ [] → ∀ b, inG g vs b → w'.heap[b]? = w.heap[b]?) : KO w' lo hi g ks.length vs ks := by
 by_cases hn : vs = []
 · have hl := h.len
   rw [hn] at hl
   have hf : ks = [] := List.eq_nil_of_length_eq_zero hl.symm
   subst hn hf
   exact ⟨h.g0, h.g1, Nat.le_trans h.top hs, h.len, h.le, (fun j hj => by simp at hj), (fun i hi' => by cases hi'), (fun i hi' => by cases hi'), h.far, h.apart⟩
 · have hb := hb hn
   have eg := hb g (.inl rfl)
   refine ⟨h.g0, h.g1, Nat.le_trans h.top hs, h.len, h.le, fun j hj => ?_, fun i hi' h' => ?_, fun i hi' h' => ?_, h.far, h.apart⟩
   · obtain ⟨⟨z, hz⟩, hf⟩ := h.any j hj
     exact ⟨⟨z, (World.cell?_of_block (a := ⟨g, j, none⟩) eg).trans hz⟩, (World.frozen?_of_block (a := ⟨g, j, none⟩) eg).trans hf⟩
   · obtain ⟨c0, c1⟩ := h.got i hi' h'
     exact ⟨fun j v hv => (World.cell?_of_block (a := ⟨g, i * 14 + j, none⟩) eg).trans (c0 j v hv), (World.cell?_of_block (a := ⟨g, i * 14 + 13, none⟩) eg).trans c1⟩
   · exact (h.own i hi' h').same hs (fun b e => hb b (.inr ⟨_, List.getElem_mem h', e⟩))
/-- v is the list fs of flows (places), their lists are vs; all in blocks from lo up to hi; no block serves twice. -/
def TX (w : World) (lo hi : Nat) (v : Value) (vs : List Value) (fs : List F8) : Prop :=
 (∃ g cap, v = .slice (some ⟨g, 0, none⟩) fs.length cap ∧ fs.length ≤ cap ∧ FO w lo hi g fs.length vs fs) ∨ (fs = [] ∧ vs = [] ∧ ∃ a c, v = .slice a 0 c)
def KX (w : World) (lo hi : Nat) (v : Value) (vs : List Value) (ks : List Kn) : Prop :=
 (∃ g cap, v = .slice (some ⟨g, 0, none⟩) ks.length cap ∧ ks.length ≤ cap ∧ KO w lo hi g ks.length vs ks) ∨ (ks = [] ∧ vs = [] ∧ ∃ a c, v = .slice a 0 c)
section
variable {w w' : World} {lo hi : Nat} {v : Value} {vs : List Value} {fs : List F8} {ks : List Kn}
theorem TX.bd (h : TX w lo hi v vs fs) {b : Nat} (hb : inV v vs b) : lo ≤ b ∧ b < hi ∧ b < w.heap.size := by
 rcases h with ⟨g, cap, rfl, hc, f⟩ | ⟨rfl, rfl, _⟩
 · rcases hb.2 with e | ⟨u, hu, e⟩
   · have e : b = g := e
     subst e
     exact ⟨f.g0, f.g1, Nat.lt_of_lt_of_le f.g1 f.top⟩
   · obtain ⟨i, hi', rfl⟩ := List.mem_iff_getElem.1 hu
     exact (f.own i (by rw [← f.len]; exact hi') hi').el e
 · exact absurd hb (inV_nil _ _)
theorem KX.bd (h : KX w lo hi v vs ks) {b : Nat} (hb : inV v vs b) : lo ≤ b ∧ b < hi ∧ b < w.heap.size := by
 rcases h with ⟨g, cap, rfl, hc, f⟩ | ⟨rfl, rfl, _⟩
 · rcases hb.2 with e | ⟨u, hu, e⟩
   · have e : b = g := e
     subst e
     exact ⟨f.g0, f.g1, Nat.lt_of_lt_of_le f.g1 f.top⟩
   · obtain ⟨i, hi', rfl⟩ := List.mem_iff_getElem.1 hu
     exact (f.own i (by rw [← f.len]; exact hi') hi').el e
 · exact absurd hb (inV_nil _ _)
theorem TX.same (h : TX w lo hi v vs fs) (hs : w.heap.size ≤ w'.heap.size) (hb : ∀ b, inV v vs b → w'.heap[b]? = w.heap[b]?) : TX w' lo hi v vs fs := by
 rcases h with ⟨g, cap, rfl, hc, f⟩ | h
 · exact .inl ⟨g, cap, rfl, hc, f.sameG hs (fun hn b hg => hb b ⟨hn, hg⟩)⟩
 · exact .inr h
theorem KX.same (h : KX w lo hi v vs ks) (hs : w.heap.size ≤ w'.heap.size) (hb : ∀ b, inV v vs b → w'.heap[b]? = w.heap[b]?) : KX w' lo hi v vs ks := by
 rcases h with ⟨g, cap, rfl, hc, f⟩ | h
 · exact .inl ⟨g, cap, rfl, hc, f.sameG hs (fun hn b hg => hb b ⟨hn, hg⟩)⟩
 · exact .inr h
theorem TX.next (h : TX w lo hi v vs fs) (hb : Below w.heap.size w w') : TX w' lo hi v vs fs := h.same hb.size (fun b hv => hb.block b (h.bd hv).2.2)
theorem KX.next (h : KX w lo hi v vs ks) (hb : Below w.heap.size w w') : KX w' lo hi v vs ks := h.same hb.size (fun b hv => hb.block b (h.bd hv).2.2)
theorem TX.onlyP {p : Nat → Prop} (h : TX w lo hi v vs fs) (o : OnlyP p w w') (hn : ∀ b, inV v vs b → ¬ p b) : TX w' lo hi v vs fs := h.same o.size (fun b hv => o.block b (h.bd hv).2.2 (hn b hv))
theorem KX.onlyP {p : Nat → Prop} (h : KX w lo hi v vs ks) (o : OnlyP p w w') (hn : ∀ b, inV v vs b → ¬ p b) : KX w' lo hi v vs ks := h.same o.size (fun b hv => o.block b (h.bd hv).2.2 (hn b hv))
theorem TX.wider {lo' hi' : Nat} (h : TX w lo hi v vs fs) (h1 : lo' ≤ lo) (h2 : hi ≤ hi') (h3 : hi' ≤ w.heap.size) : TX w lo' hi' v vs fs := by
 rcases h with ⟨g, cap, rfl, hc, f⟩ | h
 · exact .inl ⟨g, cap, rfl, hc, f.wider h1 h2 h3⟩
 · exact .inr h
theorem KX.wider {lo' hi' : Nat} (h : KX w lo hi v vs ks) (h1 : lo' ≤ lo) (h2 : hi ≤ hi') (h3 : hi' ≤ w.heap.size) : KX w lo' hi' v vs ks := by
 rcases h with ⟨g, cap, rfl, hc, f⟩ | h
 · exact .inl ⟨g, cap, rfl, hc, f.wider h1 h2 h3⟩
 · exact .inr h
theorem TX.fls {n c : Nat} {a : Option Addr} (h : TX w lo hi (.slice a n c) vs fs) : n = fs.length ∧ Fls w.heap.size w a fs := by
 rcases h with ⟨g, cap, e, hc, f⟩ | ⟨rfl, _, a', c', e⟩
 · injection e with e1 e2 e3
   subst e1 e2
   exact ⟨rfl, f.fls⟩
 · injection e with e1 e2 e3
   exact ⟨e2, Fls.nil _ _ _⟩
theorem KX.kls {n c : Nat} {a : Option Addr} (h : KX w lo hi (.slice a n c) vs ks) : n = ks.length ∧ Kls w.heap.size w a ks := by
 rcases h with ⟨g, cap, e, hc, f⟩ | ⟨rfl, _, a', c', e⟩
 · injection e with e1 e2 e3
   subst e1 e2
   exact ⟨rfl, f.kls⟩
 · injection e with e1 e2 e3
   exact ⟨e2, Kls.nil _ _ _⟩
theorem TV.tx (h : TV w lo hi v fs) : ∃ vs, TX w lo hi v vs fs := by
 rcases h with ⟨g, cap, vs, e, hc, f⟩ | ⟨h, a, c, e⟩
 · exact ⟨vs, .inl ⟨g, cap, e, hc, f⟩⟩
 · exact ⟨[], .inr ⟨h, rfl, a, c, e⟩⟩
theorem KV.kx (h : KV w lo hi v ks) : ∃ vs, KX w lo hi v vs ks := by
 rcases h with ⟨g, cap, vs, e, hc, f⟩ | ⟨h, a, c, e⟩
 · exact ⟨vs, .inl ⟨g, cap, e, hc, f⟩⟩
 · exact ⟨[], .inr ⟨h, rfl, a, c, e⟩⟩
theorem TX.tv (h : TX w lo hi v vs fs) : TV w lo hi v fs := by
 rcases h with ⟨g, cap, e, hc, f⟩ | ⟨h, _, a, c, e⟩
 · exact .inl ⟨g, cap, vs, e, hc, f⟩
 · exact .inr ⟨h, a, c, e⟩
theorem KX.kv (h : KX w lo hi v vs ks) : KV w lo hi v ks := by
 rcases h with ⟨g, cap, e, hc, f⟩ | ⟨h, _, a, c, e⟩
 · exact .inl ⟨g, cap, vs, e, hc, f⟩
 · exact .inr ⟨h, a, c, e⟩
end
/-- The lists of an Engine, owned, in blocks from lo up to hi; no block serves two. -/
structure EOwn (w : World) (lo hi : Nat) (sT sO sP vL : Value) (uL : List Value) (vK : Value) (uK : List Value) (T O P : List Q4) (L : List F8) (K : List Kn) : Prop where
 l : LV w lo sT sO sP T O P
 lb : ∀ b, inL sT sO sP b → b < hi
 p : TX w lo hi vL uL L
 k : KX w lo hi vK uK K
 d1 : ∀ b, inL sT sO sP b → ¬ inV vL uL b
 d2 : ∀ b, inL sT sO sP b → ¬ inV vK uK b
 d3 : ∀ b, inV vL uL b → ¬ inV vK uK b
 top : hi ≤ w.heap.size
/-- All blocks of an Engine. -/
def inE (sT sO sP vL : Value) (uL : List Value) (vK : Value) (uK : List Value) (b : Nat) : Prop := inL sT sO sP b ∨ inV vL uL b ∨ inV vK uK b
section
variable {w w' : World} {lo hi : Nat} {sT sO sP vL vK : Value} {uL uK : List Value} {T O P : List Q4} {L : List F8} {K : List Kn}
theorem EOwn.bd (h : EOwn w lo hi sT sO sP vL uL vK uK T O P L K) {b : Nat} (hb : inE sT sO sP vL uL vK uK b) : lo ≤ b ∧ b < hi := by
 rcases hb with e | e | e
 · exact ⟨(h.l.lo e).1, h.lb b e⟩
 · exact ⟨(h.p.bd e).1, (h.p.bd e).2.1⟩
 · exact ⟨(h.k.bd e).1, (h.k.bd e).2.1⟩
theorem EOwn.next (h : EOwn w lo hi sT sO sP vL uL vK uK T O P L K) (hb : Below w.heap.size w w') : EOwn w' lo hi sT sO sP vL uL vK uK T O P L K :=
 ⟨h.l.next hb, h.lb, h.p.next hb, h.k.next hb, h.d1, h.d2, h.d3, Nat.le_trans h.top hb.size⟩
theorem EOwn.onlyP {p : Nat → Prop} (h : EOwn w lo hi sT sO sP vL uL vK uK T O P L K) (o : OnlyP p w w') (hn : ∀ b, inE sT sO sP vL uL vK uK b → ¬ p b) : EOwn w' lo hi sT sO sP vL uL vK uK T O P L K :=
 ⟨h.l.onlyP o (fun b e => hn b (.inl (.inl e))) (fun b e => hn b (.inl (.inr (.inl e)))) (fun b e => hn b (.inl (.inr (.inr e)))), h.lb, h.p.onlyP o (fun b e => hn b (.inr (.inl e))), h.k.onlyP o (fun b e => hn b (.inr (.inr e))), h.d1, h.d2, h.d3, Nat.le_trans h.top o.size⟩
theorem EOwn.only {g : Nat} (h : EOwn w lo hi sT sO sP vL uL vK uK T O P L K) (o : Only g w w') (hn : ¬ inE sT sO sP vL uL vK uK g) : EOwn w' lo hi sT sO sP vL uL vK uK T O P L K :=
 h.onlyP (OnlyP.ofOnly (p := fun b => b = g) o rfl) (fun b hb e => hn (by rw [← e]; exact hb))
theorem EOwn.wider {lo' hi' : Nat} (h : EOwn w lo hi sT sO sP vL uL vK uK T O P L K) (h1 : lo' ≤ lo) (h2 : hi ≤ hi') (h3 : hi' ≤ w.heap.size) : EOwn w lo' hi' sT sO sP vL uL vK uK T O P L K :=
 ⟨h.l.lower h1, fun b hb => Nat.lt_of_lt_of_le (h.lb b hb) h2, h.p.wider h1 h2 h3, h.k.wider h1 h2 h3, h.d1, h.d2, h.d3, h3⟩
end
/-- Somewhere from lo up to hi. -/
def Eng (w : World) (lo hi : Nat) (sT sO sP vL vK : Value) (T O P : List Q4) (L : List F8) (K : List Kn) : Prop := ∃ lo' hi' uL uK, lo ≤ lo' ∧ hi' ≤ hi ∧ EOwn w lo' hi' sT sO sP vL uL vK uK T O P L K
/-- By intervals of blocks: the Lend's lists from ll up to lh, the Places' from pl up to ph, the Conns' from kl up to kh. -/
structure EInt (w : World) (ll lh pl ph kl kh : Nat) (sT sO sP vL vK : Value) (T O P : List Q4) (L : List F8) (K : List Kn) : Prop where
 l : LV w ll sT sO sP T O P
 lb : ∀ b, inL sT sO sP b → b < lh
 p : TV w pl ph vL L
 k : KV w kl kh vK K
 d1 : lh ≤ pl ∨ ph ≤ ll
 d2 : lh ≤ kl ∨ kh ≤ ll
 d3 : ph ≤ kl ∨ kh ≤ pl
 t1 : lh ≤ w.heap.size
 t2 : ph ≤ w.heap.size
 t3 : kh ≤ w.heap.size
section
variable {w w' : World} {ll lh pl ph kl kh : Nat} {sT sO sP vL vK : Value} {T O P : List Q4} {L : List F8} {K : List Kn}
theorem EInt.next (h : EInt w ll lh pl ph kl kh sT sO sP vL vK T O P L K) (hb : Below w.heap.size w w') : EInt w' ll lh pl ph kl kh sT sO sP vL vK T O P L K :=
 have hs := hb.size
 ⟨h.l.next hb, h.lb, h.p.next hb, h.k.next hb, h.d1, h.d2, h.d3, Nat.le_trans h.t1 hs, Nat.le_trans h.t2 hs, Nat.le_trans h.t3 hs⟩
theorem EInt.only {g : Nat} (h : EInt w ll lh pl ph kl kh sT sO sP vL vK T O P L K) (o : Only g w w') (h1 : g < ll ∨ lh ≤ g) (h2 : g < pl ∨ ph ≤ g) (h3 : g < kl ∨ kh ≤ g) : EInt w' ll lh pl ph kl kh sT sO sP vL vK T O P L K := by
 have hs := o.size
 have hp : OnlyP (fun k => k = g) w w' := ⟨o.os, o.tape, o.output, o.size, fun k hk hn => o.block k hk hn⟩
 have no : ∀ b, inL sT sO sP b → ¬ (b = g) := fun b hb e => by have := h.lb b hb; have := (h.l.lo hb).1; omega
 exact ⟨h.l.onlyP hp (fun b e => no b (.inl e)) (fun b e => no b (.inr (.inl e))) (fun b e => no b (.inr (.inr e))), h.lb, h.p.same hs (fun b a1 a2 a3 => o.block b a3 (by omega)), h.k.same hs (fun b a1 a2 a3 => o.block b a3 (by omega)), h.d1, h.d2, h.d3, Nat.le_trans h.t1 hs, Nat.le_trans h.t2 hs, Nat.le_trans h.t3 hs⟩
end
theorem EInt.onlyI {w w' : World} {ll lh pl ph kl kh lo' hi' : Nat} {sT sO sP vL vK : Value} {T O P : List Q4} {L : List F8} {K : List Kn} (h : EInt w ll lh pl ph kl kh sT sO sP vL vK T O P L K) (o : OnlyI lo' hi' w w') (h1 : lh ≤ lo' ∨ hi' ≤ ll) (h2 : ph ≤ lo' ∨ hi' ≤ pl) (h3 : kh ≤ lo' ∨ hi' ≤ kl) : EInt w' ll lh pl ph kl kh sT sO sP vL vK T O P L K := by
 have hs := o.size
 have hp : OnlyP (fun k => lo' ≤ k ∧ k < hi') w w' := ⟨o.os, o.tape, o.output, o.size, fun k hk hn => o.block k hk (by omega)⟩
 have no : ∀ b, inL sT sO sP b → ¬ (lo' ≤ b ∧ b < hi') := fun b hb e => by have := h.lb b hb; have := (h.l.lo hb).1; omega
 exact ⟨h.l.onlyP hp (fun b e => no b (.inl e)) (fun b e => no b (.inr (.inl e))) (fun b e => no b (.inr (.inr e))), h.lb, h.p.same hs (fun b a1 a2 a3 => o.block b a3 (by omega)), h.k.same hs (fun b a1 a2 a3 => o.block b a3 (by omega)), h.d1, h.d2, h.d3, Nat.le_trans h.t1 hs, Nat.le_trans h.t2 hs, Nat.le_trans h.t3 hs⟩
theorem Eng.ofI {w : World} {lo hi : Nat} {sT sO sP vL vK : Value} {T O P : List Q4} {L : List F8} {K : List Kn} (h : ∃ ll lh pl ph kl kh, (lo ≤ ll ∧ lo ≤ pl ∧ lo ≤ kl) ∧ (lh ≤ hi ∧ ph ≤ hi ∧ kh ≤ hi) ∧ EInt w ll lh pl ph kl kh sT sO sP vL vK T O P L K) : Eng w lo hi sT sO sP vL vK T O P L K := by
 obtain ⟨ll, lh, pl, ph, kl, kh, ⟨h1, h2, h3⟩, ⟨h4, h5, h6⟩, e⟩ := h
 obtain ⟨uL, tx⟩ := e.p.tx
 obtain ⟨uK, kx⟩ := e.k.kx
 have d1 := e.d1
 have d2 := e.d2
 have d3 := e.d3
 have t1 := e.t1
 have t2 := e.t2
 have t3 := e.t3
 obtain ⟨m, hm⟩ : ∃ m, m = max lh (max ph kh) := ⟨_, rfl⟩
 have hm1 : lh ≤ m := by omega
 have hm2 : ph ≤ m := by omega
 have hm3 : kh ≤ m := by omega
 have hm4 : m ≤ hi := by omega
 have hm5 : m ≤ w.heap.size := by omega
 clear hm
 exact ⟨lo, m, uL, uK, Nat.le_refl _, hm4, e.l.lower h1, fun b hb => Nat.lt_of_lt_of_le (e.lb b hb) hm1, tx.wider h2 hm2 hm5, kx.wider h3 hm3 hm5,
   fun b hb hv => by have a1 := e.lb b hb; have a2 := (e.l.lo hb).1; have a3 := tx.bd hv; omega, fun b hb hv => by have a1 := e.lb b hb; have a2 := (e.l.lo hb).1; have a3 := kx.bd hv; omega, fun b hb hv => by have a1 := tx.bd hb; have a3 := kx.bd hv; omega, hm5⟩
section
variable {w w' : World} {lo hi : Nat} {sT sO sP vL vK : Value} {T O P : List Q4} {L : List F8} {K : List Kn}
theorem EOwn.eng {uL uK : List Value} (h : EOwn w lo hi sT sO sP vL uL vK uK T O P L K) : Eng w lo hi sT sO sP vL vK T O P L K := ⟨lo, hi, uL, uK, Nat.le_refl _, Nat.le_refl _, h⟩
theorem Eng.next (h : Eng w lo hi sT sO sP vL vK T O P L K) (hb : Below w.heap.size w w') : Eng w' lo hi sT sO sP vL vK T O P L K := by
 obtain ⟨a, b, c, d, h1, h2, o⟩ := h
 exact ⟨a, b, c, d, h1, h2, o.next hb⟩
theorem Eng.wider {lo' hi' : Nat} (h : Eng w lo hi sT sO sP vL vK T O P L K) (hl : lo' ≤ lo) (hh : hi ≤ hi') : Eng w lo' hi' sT sO sP vL vK T O P L K := by
 obtain ⟨a, b, c, d, h1, h2, o⟩ := h
 exact ⟨a, b, c, d, Nat.le_trans hl h1, Nat.le_trans h2 hh, o⟩
theorem eng_onlyP {p : Nat → Prop} (h : Eng w lo hi sT sO sP vL vK T O P L K) (o : OnlyP p w w') (hne : ∀ g, lo ≤ g ∧ g < hi → ¬ p g) : Eng w' lo hi sT sO sP vL vK T O P L K := by
 obtain ⟨a, b, c, d, h1, h2, x⟩ := h
 exact ⟨a, b, c, d, h1, h2, x.onlyP o (fun g hg => hne g (by have := x.bd hg; omega))⟩
theorem Eng.only {g : Nat} (h : Eng w lo hi sT sO sP vL vK T O P L K) (o : Only g w w') (hg : g < lo ∨ hi ≤ g) : Eng w' lo hi sT sO sP vL vK T O P L K :=
 eng_onlyP h (OnlyP.ofOnly (p := fun b => b = g) o rfl) (fun b hb e => by omega)
theorem Eng.onlyI {lo' hi' : Nat} (h : Eng w lo hi sT sO sP vL vK T O P L K) (o : OnlyI lo' hi' w w') (hg : hi ≤ lo' ∨ hi' ≤ lo) : Eng w' lo hi sT sO sP vL vK T O P L K :=
 eng_onlyP h (OnlyP.ofI (p := fun b => lo' ≤ b ∧ b < hi') o (fun b h1 h2 => ⟨h1, h2⟩)) (fun b hb e => by omega)
end
theorem szPlace_gen (q d : Int) (a : Option Addr) (n cap : Nat) (left : Int) (w : World) (hn : (n : Int) ≤ 9223372036854775807) (h0 : 0 ≤ left) (h1 : left ≤ 1048576) :
   Calls Tryz.prog 64 #[.agg #[.int .i64 q, .int .i64 d, .slice a n cap], .int .i64 left] w fun e w' => e = .returned (.int .i64 (if (n : Int) ≤ left then left - n else -1)) ∧ Below w.heap.size w w' := by
 by_cases h : (n : Int) ≤ left
 · have f : (0 : Int) ≤ left - (n : Int) := by omega
   rw [if_pos h]
   go_enter Tryz.func64, Tryz.ntmps64
   go_wp2_with (first | (go_at_call 127; refine (szInt64S_gen _ _ _ _ _ hn h0 h1).mono ?_; rintro e w2 ⟨rfl, rfl⟩; rw [if_pos h]))
   go_ret
   exact ⟨rfl, by go_grown⟩
 · rw [if_neg h]
   go_enter Tryz.func64, Tryz.ntmps64
   go_wp2_with (first | (go_at_call 127; refine (szInt64S_gen _ _ _ _ _ hn h0 h1).mono ?_; rintro e w2 ⟨rfl, rfl⟩; rw [if_neg h]))
   go_ret
   exact ⟨rfl, by go_grown⟩
set_option maxHeartbeats 2000000 in
theorem szPlaceS_gen {w : World} {a : Option Addr} (cap : Nat) {fs : List F8} (left : Int) (h0 : 0 ≤ left) (h1 : left ≤ 1048576) (h : Fls w.heap.size w a fs) (hm : fs.length ≤ maxLen) (hs : ∀ f ∈ fs, f.2.2.length ≤ maxLen) :
   Calls Tryz.prog 21 #[.slice a fs.length cap, .int .i64 left] w fun e w' => e = .returned (.int .i64 (if (fs.length : Int) + (sumL fs fs.length : Int) ≤ left then left - (fs.length : Int) - (sumL fs fs.length : Int) else -1)) ∧ Below w.heap.size w w' := by
 have hm' : (fs.length : Int) ≤ 9223372036854775807 := by unfold maxLen at hm; omega
 obtain ⟨r, hr⟩ : ∃ r : Int, (if (fs.length : Int) + (sumL fs fs.length : Int) ≤ left then left - (fs.length : Int) - (sumL fs fs.length : Int) else -1) = r := ⟨_, rfl⟩
 have HR : Hid ((if (fs.length : Int) + (sumL fs fs.length : Int) ≤ left then left - (fs.length : Int) - (sumL fs fs.length : Int) else -1) = r) := hr
 rw [hr]
 clear hr
 have rl : IntKind.i64.wrap (left - (fs.length : Int)) = left - (fs.length : Int) := by rw [IntKind.wrap_i64]; omega
 by_cases hn : (fs.length : Int) ≤ left
 · have f : (0 : Int) ≤ left - (fs.length : Int) := by omega
   go_enter Tryz.func21, Tryz.ntmps21
   go_wp2
   go_loopw [1, 5] (fun l i wr => ∃ k : Nat, i = .int .i64 k ∧ k ≤ fs.length ∧ l = .int .i64 (left - (fs.length : Int) - (sumL fs k : Int)) ∧ (fs.length : Int) + (sumL fs k : Int) ≤ left ∧ Below w.heap.size w wr) (fun _ i _ => fs.length - (intOf i).toNat)
   case atStart => exact ⟨0, rfl, by omega, by show _ = Value.int .i64 (left - (fs.length : Int) - (0 : Nat)); rw [Int.natCast_zero, Int.sub_zero], by show (fs.length : Int) + (0 : Nat) ≤ _; omega, Below.refl _ _⟩
   case round =>
     obtain ⟨k, rfl, hk, rfl, hle, hb⟩ := hrel
     by_cases hlt : k < fs.length
     · obtain ⟨b, off, sa, sc, rfl, hbl, c0, c1, c2, _⟩ := h.at hb k hlt
       have hlt' : (k : Int) < (fs.length : Int) := by omega
       have hsk := hs _ (List.getElem_mem hlt)
       have hnx := sumL_next hlt
       have hmo := sumL_mono fs (show k + 1 ≤ fs.length by omega)
       obtain ⟨m, hmm⟩ : ∃ m, fs[k].2.2.length = m := ⟨_, rfl⟩
       rw [hmm] at c2 hsk hnx
       obtain ⟨s, hss⟩ : ∃ s, sumL fs k = s := ⟨_, rfl⟩
       rw [hss] at hle hnx ⊢
       have hl0 : (0 : Int) ≤ left - (fs.length : Int) - (s : Int) := by omega
       have hl1 : left - (fs.length : Int) - (s : Int) ≤ 1048576 := by omega
       have hmi : (m : Int) ≤ 9223372036854775807 := by unfold maxLen at hsk; omega
       have HN : Hid (sumL fs (k + 1) = s + m) := hnx
       have HM : Hid (sumL fs (k + 1) ≤ sumL fs fs.length) := hmo
       clear hmm hss hnx hmo
       by_cases hc : (m : Int) ≤ left - (fs.length : Int) - (s : Int)
       · have f0 : (0 : Int) ≤ left - (fs.length : Int) - (s : Int) - (m : Int) := by omega
         go_wp2_with (first | (go_at_call 64; refine (szPlace_gen _ _ _ _ _ _ _ hmi hl0 hl1).mono ?_; rintro e w2 ⟨rfl, hb2⟩; rw [if_pos hc]))
         go_roundw
         case rel =>
           refine ⟨k + 1, by go_num, by omega, ?_, by rw [HN.out]; omega, below_step hb hb2⟩
           rw [HN.out]
           congr 1
           omega
         case measure => first | (simp [intOf]; done) | (simp [intOf]; omega)
       · go_wp2_with (first | (go_at_call 64; refine (szPlace_gen _ _ _ _ _ _ _ hmi hl0 hl1).mono ?_; rintro e w2 ⟨rfl, hb2⟩; rw [if_neg hc]))
         go_ret
         exact ⟨congrArg (fun x => Ending.returned (.int .i64 x)) ((if_neg (by have := HN.out; have := HM.out; omega)).symm.trans HR.out), below_step hb hb2⟩
     · have e : k = fs.length := by omega
       subst e
       have HL : Hid ((fs.length : Int) + (sumL fs fs.length : Int) ≤ left) := hle
       clear hle
       go_wp2
       go_ret
       exact ⟨congrArg (fun x => Ending.returned (.int .i64 x)) ((if_pos HL.out).symm.trans HR.out), hb⟩
 · have f : left - (fs.length : Int) < 0 := by omega
   have e : r = -1 := HR.out.symm.trans (if_neg (by omega))
   subst e
   go_enter Tryz.func21, Tryz.ntmps21
   go_wp2
   go_ret
   exact ⟨rfl, Below.refl _ _⟩
theorem info_place : (Tryz.prog.info? 58).map (fun i => (i.zero, i.size, i.bytes)) = some (some (.agg #[.int .i64 0, .int .i64 0, .slice none 0 0]), 3, 40) := by kernel_rfl
set_option maxHeartbeats 1000000 in
theorem toPlaceP_any {w : World} {a : Option Addr} (cap : Nat) (q d : Int) {xs : List Int} (h : ISmp w.heap.size w a xs) (hn : xs.length ≤ 1048576) :
   Calls Tryz.prog 74 #[.agg #[.int .i64 q, .int .i64 d, .slice a xs.length cap]] w fun e w' => ∃ g, e = .returned (.agg #[.int .i64 q, .int .i64 d, .slice (some ⟨g, 0, none⟩) xs.length xs.length]) ∧ w.heap.size ≤ g ∧ g < w'.heap.size ∧ IFill w' g xs.length xs xs.length ∧ Below w.heap.size w w' := by
 go_enter Tryz.func74, Tryz.ntmps74
 go_upto_region 4 with (fail)
 obtain ⟨v, hv⟩ : ∃ v, v = ((w.alloc (.cells #[.int .i64 q, .int .i64 d, .slice a xs.length cap] 98)).alloc (.cells #[.int .i64 0, .int .i64 0, .slice none 0 0] 58)).alloc (.cells #[.int .i64 q, .int .i64 d, .slice none 0 0] 58) := ⟨_, rfl⟩
 rw [← hv]
 have KW : Hid (Kept w [(w.heap.size, 2, .slice a xs.length cap), (w.heap.size + 1, 0, .int .i64 0), (w.heap.size + 1, 1, .int .i64 0), (w.heap.size + 1, 2, .slice none 0 0), (w.heap.size + 1 + 1, 0, .int .i64 q), (w.heap.size + 1 + 1, 1, .int .i64 d), (w.heap.size + 1 + 1, 2, .slice none 0 0)] [w.heap.size + 1, w.heap.size + 1 + 1] v) := by
   rw [hv]
   refine ⟨⟨⟨by simp <;> omega, by go_simp⟩, ⟨by simp <;> omega, by go_simp⟩, ⟨by simp <;> omega, by go_simp⟩, ⟨by simp <;> omega, by go_simp⟩, ⟨by simp, by go_simp⟩, ⟨by simp, by go_simp⟩, ⟨by simp, by go_simp⟩, trivial⟩, fun b hb => ?_, by go_grown⟩
   simp only [List.mem_cons, List.not_mem_nil, or_false] at hb
   rcases hb with rfl | rfl
   · exact ⟨by simp <;> omega, fun o => by go_simp⟩
   · exact ⟨by simp, fun o => by go_simp⟩
 clear hv
 have ⟨⟨z0, k0⟩, ⟨z1, k1⟩, ⟨z2, k2⟩, ⟨z3, k3⟩, ⟨z4, k4⟩, ⟨z5, k5⟩, ⟨z6, k6⟩, _⟩ := KW.out.cells
 have zv := KW.out.hb.size
 go_wp2_with (first | (go_at_call 134; refine (toInt64S_any cap (h.here KW.out.hb) hn).mono ?_; rintro e w2 ⟨g, rfl, hg0, hg1, f, hb2⟩; have K2 : Hid (Kept w [(w.heap.size, 2, .slice a xs.length cap), (w.heap.size + 1, 0, .int .i64 0), (w.heap.size + 1, 1, .int .i64 0), (w.heap.size + 1, 2, .slice none 0 0), (w.heap.size + 1 + 1, 0, .int .i64 q), (w.heap.size + 1 + 1, 1, .int .i64 d), (w.heap.size + 1 + 1, 2, .slice none 0 0)] [w.heap.size + 1, w.heap.size + 1 + 1] w2) := KW.out.next hb2; have ⟨⟨j0, l0⟩, ⟨j1, l1⟩, ⟨j2, l2⟩, ⟨j3, l3⟩, ⟨j4, l4⟩, ⟨j5, l5⟩, ⟨j6, l6⟩, _⟩ := K2.out.cells; have fr1 := (K2.out.free (w.heap.size + 1) (by simp)).2; have fr2 := (K2.out.free (w.heap.size + 1 + 1) (by simp)).2))
 refine bodyPost_ret (results_one rfl _ _ _ [.int .i64 q, .int .i64 d, .slice (some ⟨g, 0, none⟩) xs.length xs.length] rfl (put3_zero (z0 := .int .i64 0) (z1 := .int .i64 0) (z2 := .slice none 0 0) _ _ _ ((set_far (by simp)).trans l1) ((set_far (by simp)).trans l2) ((set_far (by simp)).trans l3)) Tryz.underlying58 rfl (by kernel_rfl)) rfl ?_
 refine ⟨g, rfl, by omega, by simp; omega, ?_, (((K2.out.hb.setCell (by simp <;> omega) _).setCell (by simp) _).setCell (by simp) _).setCell (by simp) _⟩
 exact (((f.far _ (by simp; omega)).far _ (by simp; omega)).far _ (by simp; omega)).far _ (by simp; omega)
set_option maxHeartbeats 2000000 in
theorem toPlaceS_any {w : World} {a : Option Addr} (cap : Nat) {fs : List F8} (h : Fls w.heap.size w a fs) (hn : fs.length ≤ 1048576) (hs : ∀ f ∈ fs, f.2.2.length ≤ 1048576) :
   Calls Tryz.prog 33 #[.slice a fs.length cap] w fun e w' => ∃ g vs, e = .returned (.slice (some ⟨g, 0, none⟩) fs.length fs.length) ∧ FO w' w.heap.size w'.heap.size g fs.length vs fs ∧ Below w.heap.size w w' := by
 obtain ⟨i0, hi, hz0, hz1, hz2⟩ := info_parts info_place
 go_enter Tryz.func33, Tryz.ntmps33
 go_wp2_with (first
   | (at_make; refine wpList_make_full _ rfl _ _ 35 rfl w.heap.size 58 i0 _ 3 Tryz.underlying35 hi hz0 hz1 _ _ _ _ fs.length rfl rfl rfl rfl (by rw [hz2]; omega) (by unfold maxLen; omega) (Nat.le_refl _) ?_; intro w1 own1 gr1))
 have hb1 : Below w.heap.size w w1 := (Below.refl _ _).grown gr1 (Nat.le_refl _) (fun k hk => by cases hk)
 have hg1 : w.heap.size < w1.heap.size := (own1.lt _ rfl).2
 have f1 : FO w1 w.heap.size w1.heap.size w.heap.size fs.length [] (fs.take 0) := ⟨Nat.le_refl _, hg1, Nat.le_refl _, by simp, by simp, fun j hj => ⟨by
   have hc := own1.cellAt j hj
   rw [hc]
   exact made_flow _ j hj, own1.frozenAt j⟩, (fun i hi => by simp at hi), (fun i hi => by simp at hi), (fun i hi => by cases hi), (fun i j hi => by cases hi)⟩
 go_loopw [4] (fun i wr => ∃ (k : Nat) (vs : List Value), i = .int .i64 k ∧ k ≤ fs.length ∧ FO wr w.heap.size wr.heap.size w.heap.size fs.length vs (fs.take k) ∧ Below w.heap.size w wr) (fun i _ => fs.length - (intOf i).toNat)
 case atStart => exact ⟨0, [], rfl, by omega, f1, hb1⟩
 case round =>
   obtain ⟨k, vs, rfl, hk, f, hb⟩ := hrel
   by_cases hlt : k < fs.length
   · obtain ⟨b, off, sa, sc, rfl, hbl, c0, c1, c2, hsm⟩ := h.at hb k hlt
     have hlt' : (k : Int) < (fs.length : Int) := by omega
     have hsk := hs _ (List.getElem_mem hlt)
     have HT : Hid (fs.take (k + 1) = fs.take k ++ [fs[k]]) := List.take_succ_eq_append_getElem hlt
     obtain ⟨q, d, xs, hx⟩ : ∃ q d xs, fs[k] = (q, d, xs) := ⟨_, _, _, rfl⟩
     rw [hx] at c0 c1 c2 hsm hsk HT
     simp only at c0 c1 c2 hsm hsk
     clear hx
     have hzb := hb.size
     have hg := f.g1
     have hlen : (fs.take k).length = k := by rw [List.length_take]; omega
     go_wp2_with (first
       | (go_at_call 74; refine (toPlaceP_any sc q d (hsm.up hzb) hsk).mono ?_; rintro e w2 ⟨g2, rfl, hg20, hg21, f2, hb2⟩; have F : Hid (FO w2 w.heap.size wr.heap.size w.heap.size fs.length vs (fs.take k)) := f.next hb2; obtain ⟨⟨y0, e0⟩, u0⟩ := F.out.any (k * 3) (by omega); obtain ⟨⟨y1, e1⟩, u1⟩ := F.out.any (k * 3 + 1) (by omega); obtain ⟨⟨y2, e2⟩, u2⟩ := F.out.any (k * 3 + 2) (by omega)))
     have hio : IO w2 w.heap.size w2.heap.size (.slice (some ⟨g2, 0, none⟩) xs.length xs.length) xs := IV.io (.inl ⟨g2, _, rfl, by omega, hg21, f2, Nat.le_refl _⟩)
     have hp := F.out.push (k := k) hlen.symm hlt q d hio (fun b e => by have := el_at e; omega)
     rw [← HT.out] at hp
     have hz2 := hb2.size
     have hp' : FO (put3 w2 w.heap.size (k * 3) (.int .i64 q) (.int .i64 d) (.slice (some ⟨g2, 0, none⟩) xs.length xs.length)) w.heap.size (put3 w2 w.heap.size (k * 3) (.int .i64 q) (.int .i64 d) (.slice (some ⟨g2, 0, none⟩) xs.length xs.length)).heap.size w.heap.size fs.length (vs ++ [.slice (some ⟨g2, 0, none⟩) xs.length xs.length]) (fs.take (k + 1)) := by rw [put3_size]; exact hp
     exact ⟨⟨k + 1, _, by go_num, by omega, hp', put3_below (below_step hb hb2) (Nat.le_refl _)⟩, by simp [intOf]; omega⟩
   · have e : k = fs.length := by omega
     subst e
     rw [List.take_length] at f
     go_wp2
     go_ret
     exact ⟨_, _, rfl, f, hb⟩
set_option maxHeartbeats 1000000 in
theorem eqPlaceP_any {w : World} {a b : Option Addr} (c c' : Nat) (q d q' d' : Int) {xs ys : List Int} (ha : ISmp w.heap.size w a xs) (hb : ISmp w.heap.size w b ys) (hn : xs.length ≤ 4611686018427387904) :
   Calls Tryz.prog 106 #[.agg #[.int .i64 q, .int .i64 d, .slice a xs.length c], .agg #[.int .i64 q', .int .i64 d', .slice b ys.length c']] w fun e w' => e = .returned (.bool (decide (q = q' ∧ d = d' ∧ xs = ys))) ∧ Below w.heap.size w w' := by
 have nb : Below w.heap.size w ((w.alloc (.cells #[.int .i64 q, .int .i64 d, .slice a xs.length c] 58)).alloc (.cells #[.int .i64 q', .int .i64 d', .slice b ys.length c'] 58)) := by go_grown
 by_cases h1 : q = q'
 · subst h1
   by_cases h2 : d = d'
   · subst h2
     have HE : Hid (decide (q = q ∧ d = d ∧ xs = ys) = decide (xs = ys)) := by show decide (q = q ∧ d = d ∧ xs = ys) = decide (xs = ys); simp
     rw [HE.out]
     obtain ⟨f, hf⟩ : ∃ f, decide (xs = ys) = f := ⟨_, rfl⟩
     have HF : Hid (decide (xs = ys) = f) := hf
     rw [hf]
     clear hf HE
     cases f
     all_goals
       go_enter Tryz.func106, Tryz.ntmps106
       go_wp2_with (first | (go_at_call 153; refine (eqInts_any c c' (ha.here nb) (hb.here nb) hn).mono ?_; rintro e w2 ⟨rfl, hb2⟩; rw [HF.out]))
       go_ret
       exact ⟨rfl, below_step nb hb2⟩
   · have h2' : (d == d') = false := by simp [h2]
     rw [decide_eq_false (fun h => h2 h.2.1)]
     go_enter Tryz.func106, Tryz.ntmps106
     go_wp2
     go_ret
     exact ⟨rfl, nb⟩
 · have h1' : (q == q') = false := by simp [h1]
   rw [decide_eq_false (fun h => h1 h.1)]
   go_enter Tryz.func106, Tryz.ntmps106
   go_wp2
   go_ret
   exact ⟨rfl, nb⟩
set_option maxHeartbeats 2000000 in
theorem eqPlaceS_any {w : World} {a b : Option Addr} (cap cap' : Nat) {xs ys : List F8} (ha : Fls w.heap.size w a xs) (hb : Fls w.heap.size w b ys) (hn : xs.length ≤ 4611686018427387904) (hm : ∀ f ∈ xs, f.2.2.length ≤ 4611686018427387904) :
   Calls Tryz.prog 43 #[.slice a xs.length cap, .slice b ys.length cap'] w fun e w' => e = .returned (.bool (decide (xs = ys))) ∧ Below w.heap.size w w' := by
 by_cases hl : xs.length = ys.length
 · rw [hl]
   have HL : Hid (xs.length = ys.length) := hl
   clear hl
   go_enter Tryz.func43, Tryz.ntmps43
   go_wp2
   go_loopw [5] (fun i wr => ∃ k : Nat, i = .int .i64 k ∧ k ≤ ys.length ∧ xs.take k = ys.take k ∧ Below w.heap.size w wr) (fun i _ => ys.length - (intOf i).toNat)
   case atStart => exact ⟨0, rfl, by omega, by simp, by go_grown⟩
   case round =>
     obtain ⟨k, rfl, hk, ht, hbw⟩ := hrel
     by_cases hlt2 : k < ys.length
     · have hlt : k < xs.length := by have := HL.out; omega
       obtain ⟨b1, o1, s1, sc1, rfl, hb1, c0, c1, c2, m1⟩ := ha.at hbw k hlt
       obtain ⟨b2, o2, s2, sc2, rfl, hb2, d0, d1, d2, m2⟩ := hb.at hbw k hlt2
       have hlt' : (k : Int) < (ys.length : Int) := by omega
       have hnn := hn
       have hly := HL.out
       rw [hly] at hnn
       clear hly
       have hp := hm _ (List.getElem_mem hlt)
       obtain ⟨p, hpp⟩ : ∃ p, xs[k] = p := ⟨_, rfl⟩
       obtain ⟨r, hrr⟩ : ∃ r, ys[k] = r := ⟨_, rfl⟩
       rw [hpp] at c0 c1 c2 m1 hp
       rw [hrr] at d0 d1 d2 m2
       have HP : Hid (xs[k] = p) := hpp
       have HQ : Hid (ys[k] = r) := hrr
       clear hpp hrr
       obtain ⟨p0, p1, px⟩ := p
       obtain ⟨r0, r1, rx⟩ := r
       simp only at c0 c1 c2 m1 hp d0 d1 d2 m2
       have HS1 : Hid (ISmp w.heap.size wr.drew s1 px) := m1.mono (Below.refl _ _).drew
       have HS2 : Hid (ISmp w.heap.size wr.drew s2 rx) := m2.mono (Below.refl _ _).drew
       clear m1 m2
       obtain ⟨d, hd⟩ : ∃ d, decide (p0 = r0 ∧ p1 = r1 ∧ px = rx) = d := ⟨_, rfl⟩
       have HD : Hid (decide (p0 = r0 ∧ p1 = r1 ∧ px = rx) = d) := hd
       clear hd
       have hk0 : (0 : Int) ≤ (k : Int) := by omega
       have hw1 : b1 < wr.drew.heap.size := Nat.lt_of_lt_of_le hb1 hbw.size
       have hw2 : b2 < wr.drew.heap.size := Nat.lt_of_lt_of_le hb2 hbw.size
       cases d
       · go_wp2
         go_region_held3 (fun w' => w'.cell? ⟨b1, o1 + k * 3, none⟩ = some (.int .i64 p0) ∧ w'.cell? ⟨b1, o1 + k * 3 + 1, none⟩ = some (.int .i64 p1) ∧ w'.cell? ⟨b1, o1 + k * 3 + 2, none⟩ = some (.slice s1 px.length sc1) ∧ w'.cell? ⟨b2, o2 + k * 3, none⟩ = some (.int .i64 r0) ∧ w'.cell? ⟨b2, o2 + k * 3 + 1, none⟩ = some (.int .i64 r1) ∧ w'.cell? ⟨b2, o2 + k * 3 + 2, none⟩ = some (.slice s2 rx.length sc2)) (go_keep)
           (first | (go_at_call 106; refine (eqPlaceP_any sc1 sc2 p0 p1 r0 r1 (HS1.out.up (by exact hbw.size)) (HS2.out.up (by exact hbw.size)) hp).mono ?_; rintro e w2 ⟨rfl, hb3⟩; rw [HD.out]; have q0 := (below_cells hb3 _ _ hw1).trans c0; have q1 := (below_cells hb3 _ _ hw1).trans c1; have q2 := (below_cells hb3 _ _ hw1).trans c2; have q3 := (below_cells hb3 _ _ hw2).trans d0; have q4 := (below_cells hb3 _ _ hw2).trans d1; have q5 := (below_cells hb3 _ _ hw2).trans d2; have hbx : Below w.heap.size w w2 := hbw.drew.trans (hb3.mono hbw.size)))
         go_wp2
         go_ret
         refine ⟨retB (decide_eq_false (fun e => of_decide_eq_false HD.out ?_)).symm, hbx⟩
         subst e
         have e2 := HP.out.symm.trans HQ.out
         injection e2 with e3 e4
         injection e4 with e4 e5
         exact ⟨e3, e4, e5⟩
       · go_wp2
         go_region_held3 (fun w' => w'.cell? ⟨b1, o1 + k * 3, none⟩ = some (.int .i64 p0) ∧ w'.cell? ⟨b1, o1 + k * 3 + 1, none⟩ = some (.int .i64 p1) ∧ w'.cell? ⟨b1, o1 + k * 3 + 2, none⟩ = some (.slice s1 px.length sc1) ∧ w'.cell? ⟨b2, o2 + k * 3, none⟩ = some (.int .i64 r0) ∧ w'.cell? ⟨b2, o2 + k * 3 + 1, none⟩ = some (.int .i64 r1) ∧ w'.cell? ⟨b2, o2 + k * 3 + 2, none⟩ = some (.slice s2 rx.length sc2)) (go_keep)
           (first | (go_at_call 106; refine (eqPlaceP_any sc1 sc2 p0 p1 r0 r1 (HS1.out.up (by exact hbw.size)) (HS2.out.up (by exact hbw.size)) hp).mono ?_; rintro e w2 ⟨rfl, hb3⟩; rw [HD.out]; have q0 := (below_cells hb3 _ _ hw1).trans c0; have q1 := (below_cells hb3 _ _ hw1).trans c1; have q2 := (below_cells hb3 _ _ hw1).trans c2; have q3 := (below_cells hb3 _ _ hw2).trans d0; have q4 := (below_cells hb3 _ _ hw2).trans d1; have q5 := (below_cells hb3 _ _ hw2).trans d2; have hbx : Below w.heap.size w w2 := hbw.drew.trans (hb3.mono hbw.size)))
         go_wp2
         have hx := of_decide_eq_true HD.out
         have ht' : xs.take (k + 1) = ys.take (k + 1) := by
           rw [List.take_succ_eq_append_getElem hlt, List.take_succ_eq_append_getElem hlt2, ht, HP.out, HQ.out, hx.1, hx.2.1, hx.2.2]
         go_roundw
         case rel => exact ⟨k + 1, by go_num, by omega, ht', hbx⟩
         case measure => first | (simp [intOf]; done) | (simp [intOf]; omega)
     · have e : k = ys.length := by omega
       subst e
       have hxy : xs = ys := by
         rw [List.take_length, ← HL.out, List.take_length] at ht; exact ht
       go_wp2
       go_ret
       exact ⟨retB (decide_eq_true hxy).symm, hbw⟩
 · have hlb : ((xs.length : Int) == (ys.length : Int)) = false := by simp; omega
   rw [decide_eq_false (fun e => hl (by rw [e]))]
   go_enter Tryz.func43, Tryz.ntmps43
   go_wp2
   go_ret
   exact ⟨rfl, by go_grown⟩
set_option maxHeartbeats 4000000 in
theorem markPlaces_any {w : World} {lo hi g : Nat} {vs : List Value} {fs : List F8} (cap : Nat) (k : Int) (f : FO w lo hi g fs.length vs fs) (hn : fs.length + sumL fs fs.length ≤ 1048576) (k0 : 0 ≤ k) (k1 : k ≤ 100000000) :
   Calls Tryz.prog 46 #[.slice (some ⟨g, 0, none⟩) fs.length cap, .int .i64 k] w fun e w' => e = .returned (.int .i64 (kAt k fs fs.length)) ∧ FO w' lo hi g fs.length vs (markF k fs) ∧ OnlyP (inG g vs) w w' := by
 have hML := markF_length k fs
 have hni : (fs.length : Int) ≤ 1048576 := by omega
 go_enter Tryz.func46, Tryz.ntmps46
 go_wp2
 go_loopw [1, 5] (fun s i wr => ∃ j : Nat, i = .int .i64 j ∧ j ≤ fs.length ∧ s = .int .i64 (kAt k fs j) ∧ FO wr lo hi g fs.length vs (mix (markF k fs) fs j) ∧ OnlyP (inG g vs) w wr) (fun _ i _ => fs.length - (intOf i).toNat)
 case atStart => exact ⟨0, rfl, by omega, by show _ = Value.int .i64 (k + 2 * (0 : Int) + (0 : Int)); congr 1; omega, by rw [mix_zero]; exact f, OnlyP.refl _ _⟩
 case round =>
   obtain ⟨j, rfl, hj, rfl, fr, hO⟩ := hrel
   by_cases hlt : j < fs.length
   · have hlt' : (j : Int) < (fs.length : Int) := by omega
     have hm : j < (mix (markF k fs) fs j).length := by rw [mix_length hML hj]; exact hlt
     have hv : j < vs.length := by rw [fr.len]; exact hm
     obtain ⟨c0, c1, c2⟩ := fr.got j hm hv
     have ho := fr.own j hm hv
     have hfar := fr.far j hv
     rw [mix_at hML hlt hm] at c0 c1 ho
     have hset := mix_set hML hlt (by rw [hML]; exact hlt)
     rw [markF_get k fs j (by rw [hML]; exact hlt) hlt] at hset
     have hmo := sumL_mono fs (show j + 1 ≤ fs.length by omega)
     rw [sumL_next hlt] at hmo
     have hk2 := kAt_next (k := k) hlt
     have hkb : k ≤ kAt k fs j ∧ kAt k fs j ≤ 200000000 := by unfold kAt; omega
     have u0 := (fr.any (j * 3) (by omega)).2
     have u1 := (fr.any (j * 3 + 1) (by omega)).2
     have g0 := fr.g0
     have g1 := fr.g1
     have tp := fr.top
     obtain ⟨K, hK⟩ : ∃ K, kAt k fs j = K := ⟨_, rfl⟩
     rw [hK] at hset hk2 hkb ⊢
     obtain ⟨x, hx⟩ : ∃ x, fs[j] = x := ⟨_, rfl⟩
     rw [hx] at c0 c1 ho hset hmo hk2
     obtain ⟨q, d, xs⟩ := x
     simp only at c0 c1 ho hset hmo hk2
     obtain ⟨va, hva⟩ : ∃ va, vs[j] = va := ⟨_, rfl⟩
     rw [hva] at c2 ho hfar
     have HVA : Hid (vs[j] = va) := hva
     have HSET : Hid ((mix (markF k fs) fs j).set j (K, K + 1, marksI (K + 2) xs.length) = mix (markF k fs) fs (j + 1)) := hset
     have HK2 : Hid (kAt k fs (j + 1) = K + 2 + (xs.length : Int)) := hk2
     have HFR : Hid (FO wr lo hi g fs.length vs (mix (markF k fs) fs j)) := fr
     have hxl : xs.length ≤ 1048576 := by omega
     have hkb0 := hkb.1
     have hkb1 := hkb.2
     obtain ⟨sa, sc, e, hcp, hio⟩ := ho
     subst e
     have hgw : g < wr.heap.size := by omega
     clear hva hx hK hset hk2 fr hkb hmo
     obtain ⟨W2, hW2⟩ : ∃ W2, W2 = (wr.setCell ⟨g, j * 3, none⟩ (.int .i64 K)).setCell ⟨g, j * 3 + 1, none⟩ (.int .i64 (K + 1)) := ⟨_, rfl⟩
     have hWb : ∀ b, b ≠ g → W2.heap[b]? = wr.heap[b]? := fun b hb => by rw [hW2, Below.heap_setCell _ _ _ _ (by exact hb), Below.heap_setCell _ _ _ _ (by exact hb)]
     have hWs : W2.heap.size ≤ wr.heap.size ∧ wr.heap.size ≤ W2.heap.size := by rw [hW2]; simp
     have e0 : W2.cell? ⟨g, j * 3, none⟩ = some (.int .i64 K) := by rw [hW2]; exact (set_other (by omega)).trans (set_same _ c0)
     have e1 : W2.cell? ⟨g, j * 3 + 1, none⟩ = some (.int .i64 (K + 1)) := by rw [hW2]; exact set_same _ ((set_other (by omega)).trans c1)
     have e2 : W2.cell? ⟨g, j * 3 + 2, none⟩ = some (.slice sa xs.length sc) := by rw [hW2]; exact (set_other (by omega)).trans ((set_other (by omega)).trans c2)
     have HOT : Hid (∀ i, i < j * 3 ∨ j * 3 + 2 < i → W2.cell? ⟨g, i, none⟩ = wr.cell? ⟨g, i, none⟩) := fun i hi => by rw [hW2]; exact (set_other (by omega)).trans (set_other (by omega))
     have HFZ : Hid (∀ i, W2.frozen? ⟨g, i, none⟩ = wr.frozen? ⟨g, i, none⟩) := fun i => by rw [hW2, World.frozen?_setCell, World.frozen?_setCell]
     have HIO : Hid (IO W2 lo hi (.slice sa xs.length sc) xs) := IO.same (w := wr) ⟨sa, sc, rfl, hcp, hio⟩ (by omega) (fun b eb => hWb b (fun e' => hfar (by rw [eb, e'])))
     have HWB : Hid (∀ b, b ≠ g → W2.heap[b]? = wr.heap[b]?) := hWb
     clear hWb hio
     have HOI : Hid (OnlyP (inG g vs) w W2) := by rw [hW2]; exact hO.two (OnlyP.ofOnly (((Only.refl g wr).setCell (p := ⟨g, j * 3, none⟩) rfl _).setCell (p := ⟨g, j * 3 + 1, none⟩) rfl _) (.inl rfl))
     have u2 : (wr.setCell ⟨g, j * 3, none⟩ (.int .i64 K)).frozen? ⟨g, j * 3 + 1, none⟩ = false := by rw [World.frozen?_setCell]; exact u1
     have c1' : (wr.setCell ⟨g, j * 3, none⟩ (.int .i64 K)).cell? ⟨g, j * 3 + 1, none⟩ = some (.int .i64 d) := (set_other (by omega)).trans c1
     go_upto_region 8 with (fail)
     rw [← hW2]
     clear hW2 c0 c1 c2 c1' u0 u1 u2
     go_wp2_with (first | (go_at_call 110; rw [show K + 1 + 1 = K + 2 by omega]; refine (markIO_any (K + 2) HIO.out hxl (by omega) (by omega)).mono ?_; rintro e w3 ⟨rfl, io3, o3⟩))
     have hg3 : elB (.slice sa xs.length sc) ≠ some g := hfar
     have gc : ∀ i, w3.cell? ⟨g, i, none⟩ = W2.cell? ⟨g, i, none⟩ := fun i => o3.cell (p := ⟨g, i, none⟩) (by show g < W2.heap.size; omega) hg3
     have gf : ∀ i, w3.frozen? ⟨g, i, none⟩ = W2.frozen? ⟨g, i, none⟩ := fun i => o3.frozen (p := ⟨g, i, none⟩) (by show g < W2.heap.size; omega) hg3
     have hs3 := o3.size
     have hp := HFR.out.turn (i := j) (q := K) (d := K + 1) (v := .slice sa xs.length sc) (xs := marksI (K + 2) xs.length) (w' := w3) hm hv (by omega) (fun b h1 h2 h3 h4 => (o3.block b (by omega) (by rw [HVA.out] at h4; exact h4)).trans (HWB.out b h3)) (fun i hi => (gc i).trans (HOT.out i hi)) (fun i => (gf i).trans (HFZ.out i)) ((gc _).trans e0) ((gc _).trans e1) ((gc _).trans e2) io3 (fun b e => by rw [HVA.out]; exact e)
     rw [HSET.out] at hp
     have hvs : vs.set j (.slice sa xs.length sc) = vs := by rw [← HVA.out]; exact List.set_getElem_self hv
     rw [hvs] at hp
     go_roundw
     case rel =>
       refine ⟨j + 1, by go_num, by omega, ?_, hp, HOI.out.two (OnlyP.ofO o3 (fun b e => .inr ⟨_, List.getElem_mem hv, by rw [HVA.out]; exact e⟩))⟩
       rw [HK2.out]
     case measure => first | (simp [intOf]; done) | (simp [intOf]; omega)
   · have e : j = fs.length := by omega
     subst e
     rw [mix_all hML] at fr
     go_wp2
     go_ret
     exact ⟨rfl, fr, hO⟩
set_option maxHeartbeats 4000000 in
theorem heldPlaces_any {w : World} {lo hi g : Nat} {vs : List Value} {fs : List F8} (cap : Nat) (k : Int) (f : FO w lo hi g fs.length vs (markF k fs)) (hn : fs.length + sumL fs fs.length ≤ 1048576) (k0 : 0 ≤ k) (k1 : k ≤ 100000000) :
   Calls Tryz.prog 49 #[.slice (some ⟨g, 0, none⟩) fs.length cap, .int .i64 k] w fun e w' => e = .returned (.int .i64 (kAt k fs fs.length)) ∧ w' = w := by
 have hML := markF_length k fs
 have hni : (fs.length : Int) ≤ 1048576 := by omega
 go_enter Tryz.func49, Tryz.ntmps49
 go_wp2
 go_loop [1, 5] (fun s i => ∃ j : Nat, i = .int .i64 j ∧ j ≤ fs.length ∧ s = .int .i64 (kAt k fs j)) (fun _ i => fs.length - (intOf i).toNat)
 case atStart => exact ⟨0, rfl, by omega, by show _ = Value.int .i64 (k + 2 * (0 : Int) + (0 : Int)); congr 1; omega⟩
 case round =>
   obtain ⟨j, rfl, hj, rfl⟩ := hrel
   by_cases hlt : j < fs.length
   · have hlt' : (j : Int) < (fs.length : Int) := by omega
     have hm : j < (markF k fs).length := by rw [hML]; exact hlt
     have hv : j < vs.length := by rw [f.len]; exact hm
     obtain ⟨c0, c1, c2⟩ := f.got j hm hv
     have ho := f.own j hm hv
     rw [markF_get k fs j hm hlt] at c0 c1 ho
     have hmo := sumL_mono fs (show j + 1 ≤ fs.length by omega)
     rw [sumL_next hlt] at hmo
     have hk2 := kAt_next (k := k) hlt
     have hkb : k ≤ kAt k fs j ∧ kAt k fs j ≤ 200000000 := by unfold kAt; omega
     obtain ⟨K, hK⟩ : ∃ K, kAt k fs j = K := ⟨_, rfl⟩
     rw [hK] at hk2 hkb c0 c1 ho ⊢
     obtain ⟨xs, hx⟩ : ∃ xs, fs[j].2.2 = xs := ⟨_, rfl⟩
     rw [hx] at ho hmo hk2
     simp only at c0 c1 ho
     obtain ⟨va, hva⟩ : ∃ va, vs[j] = va := ⟨_, rfl⟩
     rw [hva] at c2 ho
     have HK2 : Hid (kAt k fs (j + 1) = K + 2 + (xs.length : Int)) := hk2
     have hxl : xs.length ≤ 1048576 := by omega
     have hkb0 := hkb.1
     have hkb1 := hkb.2
     have hpos : ¬ (K + 2 + (xs.length : Int) < 0) := by omega
     clear hva hx hK hk2 hkb hmo
     go_wp2_with (first | (go_at_call 113; rw [show K + 1 + 1 = K + 2 by omega]; refine (heldIO_any (K + 2) ho hxl (by omega) (by omega)).mono ?_; rintro e w3 ⟨rfl, rfl⟩))
     go_round
     case rel => exact ⟨j + 1, by go_num, by omega, by rw [HK2.out]⟩
     case measure => first | (simp [intOf]; done) | (simp [intOf]; omega)
   · have e : j = fs.length := by omega
     subst e
     go_wp2
     go_ret
     exact ⟨rfl, rfl⟩
theorem markPNil_any (a : Option Addr) (cap : Nat) (k : Int) (w : World) (k0 : 0 ≤ k) (k1 : k ≤ 1000000000) : Calls Tryz.prog 46 #[.slice a 0 cap, .int .i64 k] w fun e w' => e = .returned (.int .i64 k) ∧ w' = w := by
 go_enter Tryz.func46, Tryz.ntmps46
 go_wp2
 refine wp_loop_rounds 1 ?_
 rw [rounds_succ]
 go_wp2
 go_ret
 exact ⟨rfl, rfl⟩
theorem heldPNil_any (a : Option Addr) (cap : Nat) (k : Int) (w : World) (k0 : 0 ≤ k) (k1 : k ≤ 1000000000) : Calls Tryz.prog 49 #[.slice a 0 cap, .int .i64 k] w fun e w' => e = .returned (.int .i64 k) ∧ w' = w := by
 go_enter Tryz.func49, Tryz.ntmps49
 go_wp2
 refine wp_loop_rounds 1 ?_
 rw [rounds_succ]
 go_wp2
 go_ret
 exact ⟨rfl, rfl⟩
theorem markPX_any {w : World} {lo hi n c : Nat} {a : Option Addr} {vs : List Value} {fs : List F8} (k : Int) (h : TX w lo hi (.slice a n c) vs fs) (hn : fs.length + sumL fs fs.length ≤ 1048576) (k0 : 0 ≤ k) (k1 : k ≤ 100000000) :
   Calls Tryz.prog 46 #[.slice a n c, .int .i64 k] w fun e w' => e = .returned (.int .i64 (kAt k fs fs.length)) ∧ TX w' lo hi (.slice a n c) vs (markF k fs) ∧ OnlyP (inV (.slice a n c) vs) w w' := by
 by_cases hz : fs = []
 · have hv : vs = [] := by
     rcases h with ⟨g, cap, e, hc, f⟩ | ⟨_, h2, _⟩
     · have := f.len
       rw [hz] at this
       exact List.eq_nil_of_length_eq_zero this
     · exact h2
   have hn0 : n = 0 := by have := h.fls.1; rw [hz] at this; exact this
   subst hz hv hn0
   refine (markPNil_any a c k w k0 (by omega)).mono ?_
   rintro e w' ⟨rfl, rfl⟩
   exact ⟨by rw [List.length_nil, kAt_nil], .inr ⟨rfl, rfl, a, c, rfl⟩, OnlyP.refl _ _⟩
 · rcases h with ⟨g, cap, e, hc, f⟩ | ⟨h0, _⟩
   · injection e with e1 e2 e3
     subst e1 e2 e3
     have hv : vs ≠ [] := fun e => hz (by
       have := f.len
       rw [e] at this
       exact List.eq_nil_of_length_eq_zero this.symm)
     refine (markPlaces_any c k f hn k0 k1).mono ?_
     rintro e w' ⟨rfl, f', o'⟩
     exact ⟨rfl, .inl ⟨g, c, by rw [markF_length], by rw [markF_length]; exact hc, by rw [markF_length]; exact f'⟩, o'.weak (fun b hb => ⟨hv, hb⟩)⟩
   · exact absurd h0 hz
theorem heldPV_any {w : World} {lo hi n c : Nat} {a : Option Addr} {fs : List F8} (k : Int) (h : TV w lo hi (.slice a n c) (markF k fs)) (hn : fs.length + sumL fs fs.length ≤ 1048576) (k0 : 0 ≤ k) (k1 : k ≤ 100000000) :
   Calls Tryz.prog 49 #[.slice a n c, .int .i64 k] w fun e w' => e = .returned (.int .i64 (kAt k fs fs.length)) ∧ w' = w := by
 have hl := markF_length k fs
 rcases h with ⟨g, cap, vs, e, hc, f⟩ | ⟨e0, a', c', e⟩
 · injection e with e1 e2 e3
   rw [hl] at e2 f
   subst e1 e2 e3
   exact heldPlaces_any c k f hn k0 k1
 · rw [e0] at hl
   have h0 : fs = [] := List.eq_nil_of_length_eq_zero hl.symm
   subst h0
   injection e with e1 e2 e3
   subst e1 e2 e3
   refine (heldPNil_any a c k w k0 (by omega)).mono ?_
   rintro e w' ⟨rfl, rfl⟩
   exact ⟨by rw [List.length_nil, kAt_nil], rfl⟩
/-- Where a connection is; -1: nowhere. -/
def fK (K : List Kn) (id : Int) : Int := if K.findIdx (fun c => c.id == id) < K.length then (K.findIdx (fun c => c.id == id) : Int) else -1
theorem fK_at {K : List Kn} {id : Int} {k : Nat} (h : k < K.length) (hk : k ≤ K.findIdx (fun c => c.id == id)) (e : K[k].id = id) : fK K id = k := by
 have : K.findIdx (fun c => c.id == id) = k := (List.findIdx_eq h).2 ⟨by simpa using e, fun j hj => by
   have := List.not_of_lt_findIdx (show j < K.findIdx (fun c => c.id == id) by omega)
   simpa using this⟩
 unfold fK
 rw [this, if_pos h]
theorem fK_step {K : List Kn} {id : Int} {k : Nat} (h : k < K.length) (hk : k ≤ K.findIdx (fun c => c.id == id)) (e : ¬ K[k].id = id) : k + 1 ≤ K.findIdx (fun c => c.id == id) := by
 by_cases e' : k = K.findIdx (fun c => c.id == id)
 · have := List.findIdx_getElem (p := fun c : Kn => c.id == id) (xs := K) (w := by rw [← e']; exact h)
   exact absurd (by simpa [← e'] using this) e
 · omega
theorem fK_none {K : List Kn} {id : Int} (h : K.length ≤ K.findIdx (fun c => c.id == id)) : fK K id = -1 := by
 unfold fK
 rw [if_neg (by omega)]
theorem fK_some {K : List Kn} {id : Int} (h : fK K id ≠ -1) : ∃ i, ∃ h : i < K.length, fK K id = i ∧ K[i].id = id := by
 unfold fK at h ⊢
 by_cases e : K.findIdx (fun c => c.id == id) < K.length
 · rw [if_pos e]
   exact ⟨_, e, rfl, by simpa using List.findIdx_getElem (p := fun c : Kn => c.id == id) (xs := K) (w := e)⟩
 · rw [if_neg e] at h
   exact absurd rfl h
set_option maxHeartbeats 4000000 in
theorem specFind_any {w : World} (now nx id : Int) {aT aO aP aL aK : Option Addr} {nT cT nO cO nP cP nL cL cK : Nat} {K : List Kn} (hK : Kls w.heap.size w aK K) (mK : K.length ≤ maxLen) :
   Calls Tryz.prog 26 #[engV now aT nT cT aO nO cO aP nP cP aL nL cL aK K.length cK nx, .int .i64 id] w fun e w' => e = .returned (.int .i64 (fK K id)) ∧ Below w.heap.size w w' := by
 have hm : (K.length : Int) ≤ 9223372036854775807 := by unfold maxLen at mK; omega
 obtain ⟨v, hv⟩ : ∃ v, v = w.alloc (.cells #[.int .i64 now, .slice aT nT cT, .slice aO nO cO, .slice aP nP cP, .slice aL nL cL, .slice aK K.length cK, .int .i64 nx] 38) := ⟨_, rfl⟩
 have nb : Below w.heap.size w v := by rw [hv]; go_grown
 have L0 : Lay v w.heap.size [.int .i64 now, .slice aT nT cT, .slice aO nO cO, .slice aP nP cP, .slice aL nL cL, .slice aK K.length cK, .int .i64 nx] := by rw [hv]; exact lay_new [.int .i64 now, .slice aT nT cT, .slice aO nO cO, .slice aP nP cP, .slice aL nL cL, .slice aK K.length cK, .int .i64 nx] _ rfl
 go_enter Tryz.func26, Tryz.ntmps26
 go_upto_region 1 with (fail)
 rw [← hv]
 clear hv
 have c5 : v.cell? ⟨w.heap.size, 5, none⟩ = some (.slice aK K.length cK) := L0.cell 5 _ rfl
 go_wp2
 go_loop [5] (fun i => ∃ k : Nat, i = .int .i64 k ∧ k ≤ K.length ∧ k ≤ K.findIdx (fun c => c.id == id)) (fun i => K.length - (intOf i).toNat)
 case atStart => exact ⟨0, rfl, by omega, by omega⟩
 case round =>
   obtain ⟨k, rfl, hk, hf⟩ := hrel
   have HF : Hid (k ≤ K.findIdx (fun c => c.id == id)) := hf
   clear hf
   by_cases hlt : k < K.length
   · obtain ⟨b, off, sa, sc, rfl, hbl, c0, _, _⟩ := hK.at nb k hlt
     have hlt' : (k : Int) < (K.length : Int) := by omega
     have d0 : v.cell? ⟨b, off + k * 14, none⟩ = some (.int .i64 K[k].id) := c0 0 _ rfl
     have HC : Hid (K[k].id = K[k].id) := rfl
     obtain ⟨x, hx⟩ : ∃ x, K[k].id = x := ⟨_, rfl⟩
     have HX : Hid (K[k].id = x) := hx
     rw [hx] at d0
     clear hx c0 HC
     by_cases he : x = id
     · subst he
       go_wp2
       go_ret
       exact ⟨congrArg (fun y => Ending.returned (.int .i64 y)) (fK_at hlt HF.out HX.out).symm, nb⟩
     · have he' : (x == id) = false := by simp [he]
       have HS : Hid (k + 1 ≤ K.findIdx (fun c => c.id == id)) := fK_step hlt HF.out (by rw [HX.out]; exact he)
       go_wp2
       go_round
       case rel => exact ⟨k + 1, by go_num, by omega, HS.out⟩
       case measure => first | (simp [intOf]; done) | (simp [intOf]; omega)
   · have e : k = K.length := by omega
     subst e
     go_wp2
     go_ret
     exact ⟨congrArg (fun y => Ending.returned (.int .i64 y)) (fK_none HF.out).symm, nb⟩
theorem iwin_any (x : Int) (w : World) : Calls Tryz.prog 124 #[.int .i64 x] w fun e w' => e = .returned (.bool (winB x)) ∧ w' = w := by
 go_enter Tryz.func124, Tryz.ntmps124
 go_wp2_with (first | (go_at_call 77; refine (iwithin_any _ _ _ _).mono ?_; rintro e w2 ⟨rfl, rfl⟩))
 go_ret
 exact ⟨rfl, rfl⟩
theorem ifull_any (r u l t : Int) (w : World) (hu : 0 ≤ u ∧ u ≤ 1000000000) : Calls Tryz.prog 191 #[.agg #[.int .i64 r, .int .i64 u, .int .i64 l, .int .i64 t]] w fun e w' => e = .returned (.int .i64 (1000000000 * u)) ∧ Below w.heap.size w w' := by
 have e0 : IntKind.i64.wrap (u * 1000000000) = u * 1000000000 := by rw [IntKind.wrap_i64]; omega
 rw [Int.mul_comm]
 go_enter Tryz.func191, Tryz.ntmps191
 go_wp2
 go_ret
 exact ⟨rfl, by go_grown⟩
theorem four_next {w w2 : World} {b : Nat} {x y z v : Value} (h : w.cell? ⟨b, 0, none⟩ = some x ∧ w.cell? ⟨b, 1, none⟩ = some y ∧ w.cell? ⟨b, 2, none⟩ = some z ∧ w.cell? ⟨b, 3, none⟩ = some v) (hb : Below w.heap.size w w2) (h0 : b < w.heap.size) :
   w2.cell? ⟨b, 0, none⟩ = some x ∧ w2.cell? ⟨b, 1, none⟩ = some y ∧ w2.cell? ⟨b, 2, none⟩ = some z ∧ w2.cell? ⟨b, 3, none⟩ = some v :=
 ⟨(below_cells4 hb _ _ h0).trans h.1, (below_cells4 hb _ _ h0).trans h.2.1, (below_cells4 hb _ _ h0).trans h.2.2.1, (below_cells4 hb _ _ h0).trans h.2.2.2⟩
theorem bok_order (r u l t : Int) : bokB r u l t = (((rateB r && winB u) && timeB t) && lvlB u l) := by
 unfold bokB
 cases rateB r <;> cases winB u <;> cases timeB t <;> cases lvlB u l <;> rfl
set_option maxHeartbeats 2000000 in
theorem implBucketOk_any (r u l t : Int) (w : World) : Calls Tryz.prog 186 #[.agg #[.int .i64 r, .int .i64 u, .int .i64 l, .int .i64 t]] w fun e w' => e = .returned (.bool (bokB r u l t)) ∧ Below w.heap.size w w' := by
 rw [bok_order]
 cases h1 : rateB r
 · show Calls _ _ _ _ fun e w' => e = .returned (.bool false) ∧ Below w.heap.size w w'
   go_enter Tryz.func186, Tryz.ntmps186
   go_wp2
   refine wp_region_held_drew (S := fun w' => w'.cell? ⟨w.heap.size, 0, none⟩ = some (.int .i64 r) ∧ w'.cell? ⟨w.heap.size, 1, none⟩ = some (.int .i64 u) ∧ w'.cell? ⟨w.heap.size, 2, none⟩ = some (.int .i64 l) ∧ w'.cell? ⟨w.heap.size, 3, none⟩ = some (.int .i64 t)) (by kernel_rfl) (⟨by go_simp, by go_simp, by go_simp, by go_simp⟩) (fun hS => ?_)
   refine anyR 0 rfl ?_
   refine anyR 1 rfl ?_
   refine anyC 2 rfl fun K hK => ?_
   go_simp
   (refine (irate_any _ _).mono ?_; rintro e w2 ⟨rfl, rfl⟩; rw [h1])
   refine hK.out _ _ ‹_› fun _ => ?_
   try simp only [nrm]
   refine anyR 3 rfl ?_
   refine anyS 4 rfl ?_
   refine anyS 5 rfl ?_
   refine anyS 6 rfl ?_
   refine anyR 7 rfl ?_
   refine anyR 8 rfl ?_
   refine anyS 9 rfl ?_
   refine anyS 10 rfl ?_
   refine anyS 11 rfl ?_
   refine anyR 12 rfl ?_
   refine anyR 13 rfl ?_
   refine anyS 14 rfl ?_
   refine anyS 15 rfl ?_
   refine anyS 16 rfl ?_
   refine anyS 17 rfl ?_
   refine anyS 18 rfl ?_
   refine anyR 19 rfl ?_
   refine anyR 20 rfl ?_
   refine wpAnyH_done (by kernel_rfl) ?_ _
   go_wp2
   go_ret
   exact ⟨rfl, by go_grown⟩
 · cases h2 : winB u
   · show Calls _ _ _ _ fun e w' => e = .returned (.bool false) ∧ Below w.heap.size w w'
     go_enter Tryz.func186, Tryz.ntmps186
     go_wp2
     refine wp_region_held_drew (S := fun w' => w'.cell? ⟨w.heap.size, 0, none⟩ = some (.int .i64 r) ∧ w'.cell? ⟨w.heap.size, 1, none⟩ = some (.int .i64 u) ∧ w'.cell? ⟨w.heap.size, 2, none⟩ = some (.int .i64 l) ∧ w'.cell? ⟨w.heap.size, 3, none⟩ = some (.int .i64 t)) (by kernel_rfl) (⟨by go_simp, by go_simp, by go_simp, by go_simp⟩) (fun hS => ?_)
     refine anyR 0 rfl ?_
     refine anyR 1 rfl ?_
     refine anyC 2 rfl fun K hK => ?_
     go_simp
     (refine (irate_any _ _).mono ?_; rintro e w2 ⟨rfl, rfl⟩; rw [h1])
     refine hK.out _ _ ‹_› fun _ => ?_
     try simp only [nrm]
     refine anyR 3 rfl ?_
     refine anyR 4 rfl ?_
     refine anyR 5 rfl ?_
     refine anyC 6 rfl fun K hK => ?_
     go_simp
     (refine (iwin_any _ _).mono ?_; rintro e w2 ⟨rfl, rfl⟩; rw [h2])
     refine hK.out _ _ ‹_› fun _ => ?_
     try simp only [nrm]
     refine anyR 7 rfl ?_
     refine anyR 8 rfl ?_
     refine anyS 9 rfl ?_
     refine anyS 10 rfl ?_
     refine anyS 11 rfl ?_
     refine anyR 12 rfl ?_
     refine anyR 13 rfl ?_
     refine anyS 14 rfl ?_
     refine anyS 15 rfl ?_
     refine anyS 16 rfl ?_
     refine anyS 17 rfl ?_
     refine anyS 18 rfl ?_
     refine anyR 19 rfl ?_
     refine anyR 20 rfl ?_
     refine wpAnyH_done (by kernel_rfl) ?_ _
     go_wp2
     go_ret
     exact ⟨rfl, by go_grown⟩
   · cases h3 : timeB t
     · show Calls _ _ _ _ fun e w' => e = .returned (.bool false) ∧ Below w.heap.size w w'
       go_enter Tryz.func186, Tryz.ntmps186
       go_wp2
       refine wp_region_held_drew (S := fun w' => w'.cell? ⟨w.heap.size, 0, none⟩ = some (.int .i64 r) ∧ w'.cell? ⟨w.heap.size, 1, none⟩ = some (.int .i64 u) ∧ w'.cell? ⟨w.heap.size, 2, none⟩ = some (.int .i64 l) ∧ w'.cell? ⟨w.heap.size, 3, none⟩ = some (.int .i64 t)) (by kernel_rfl) (⟨by go_simp, by go_simp, by go_simp, by go_simp⟩) (fun hS => ?_)
       refine anyR 0 rfl ?_
       refine anyR 1 rfl ?_
       refine anyC 2 rfl fun K hK => ?_
       go_simp
       (refine (irate_any _ _).mono ?_; rintro e w2 ⟨rfl, rfl⟩; rw [h1])
       refine hK.out _ _ ‹_› fun _ => ?_
       try simp only [nrm]
       refine anyR 3 rfl ?_
       refine anyR 4 rfl ?_
       refine anyR 5 rfl ?_
       refine anyC 6 rfl fun K hK => ?_
       go_simp
       (refine (iwin_any _ _).mono ?_; rintro e w2 ⟨rfl, rfl⟩; rw [h2])
       refine hK.out _ _ ‹_› fun _ => ?_
       try simp only [nrm]
       refine anyR 7 rfl ?_
       refine anyR 8 rfl ?_
       refine anyR 9 rfl ?_
       refine anyR 10 rfl ?_
       refine anyC 11 rfl fun K hK => ?_
       go_simp
       (refine (itime_any _ _).mono ?_; rintro e w2 ⟨rfl, rfl⟩; rw [h3])
       refine hK.out _ _ ‹_› fun _ => ?_
       try simp only [nrm]
       refine anyR 12 rfl ?_
       refine anyR 13 rfl ?_
       refine anyS 14 rfl ?_
       refine anyS 15 rfl ?_
       refine anyS 16 rfl ?_
       refine anyS 17 rfl ?_
       refine anyS 18 rfl ?_
       refine anyR 19 rfl ?_
       refine anyR 20 rfl ?_
       refine wpAnyH_done (by kernel_rfl) ?_ _
       go_wp2
       go_ret
       exact ⟨rfl, by go_grown⟩
     · show Calls _ _ _ _ fun e w' => e = .returned (.bool (lvlB u l)) ∧ Below w.heap.size w w'
       go_enter Tryz.func186, Tryz.ntmps186
       go_wp2
       refine wp_region_held_drew (S := fun w' => w'.cell? ⟨w.heap.size, 0, none⟩ = some (.int .i64 r) ∧ w'.cell? ⟨w.heap.size, 1, none⟩ = some (.int .i64 u) ∧ w'.cell? ⟨w.heap.size, 2, none⟩ = some (.int .i64 l) ∧ w'.cell? ⟨w.heap.size, 3, none⟩ = some (.int .i64 t)) (by kernel_rfl) (⟨by go_simp, by go_simp, by go_simp, by go_simp⟩) (fun hS => ?_)
       refine anyR 0 rfl ?_
       refine anyR 1 rfl ?_
       refine anyC 2 rfl fun K hK => ?_
       go_simp
       (refine (irate_any _ _).mono ?_; rintro e w2 ⟨rfl, rfl⟩; rw [h1])
       refine hK.out _ _ ‹_› fun _ => ?_
       try simp only [nrm]
       refine anyR 3 rfl ?_
       refine anyR 4 rfl ?_
       refine anyR 5 rfl ?_
       refine anyC 6 rfl fun K hK => ?_
       go_simp
       (refine (iwin_any _ _).mono ?_; rintro e w2 ⟨rfl, rfl⟩; rw [h2])
       refine hK.out _ _ ‹_› fun _ => ?_
       try simp only [nrm]
       refine anyR 7 rfl ?_
       refine anyR 8 rfl ?_
       refine anyR 9 rfl ?_
       refine anyR 10 rfl ?_
       refine anyC 11 rfl fun K hK => ?_
       go_simp
       (refine (itime_any _ _).mono ?_; rintro e w2 ⟨rfl, rfl⟩; rw [h3])
       refine hK.out _ _ ‹_› fun _ => ?_
       try simp only [nrm]
       refine anyR 12 rfl ?_
       refine anyR 13 rfl ?_
       refine anyR 14 rfl ?_
       refine anyR 15 rfl ?_
       refine anyR 16 rfl ?_
       refine anyC 17 rfl fun K hK => ?_
       go_simp
       (refine (ifull_any r u l t _ (win_num h2)).mono ?_; rintro e w3 ⟨rfl, hb3⟩; have hS := four_next hS hb3 (by simp); simp only [])
       refine hK.out _ _ ‹_› fun _ => ?_
       try simp only [nrm]
       refine anyC 18 rfl fun K hK => ?_
       go_simp
       (refine (iwithin_any _ _ _ _).mono ?_; rintro e w4 ⟨rfl, rfl⟩; rw [show (decide (0 ≤ l) && decide (l ≤ 1000000000 * u)) = lvlB u l from rfl])
       refine hK.out _ _ ‹_› fun _ => ?_
       try simp only [nrm]
       refine anyR 19 rfl ?_
       refine anyR 20 rfl ?_
       refine wpAnyH_done (by kernel_rfl) ?_ _
       go_wp2
       go_ret
       exact ⟨rfl, below_two (by go_grown) hb3⟩
set_option maxHeartbeats 8000000 in
theorem markConns_any {w : World} {lo hi g : Nat} {vs : List Value} {ks : List Kn} (cap : Nat) (k : Int) (f : KO w lo hi g ks.length vs ks) (hn : ks.length + sumK ks ks.length ≤ 1048576) (k0 : 0 ≤ k) (k1 : k ≤ 100000000) :
   Calls Tryz.prog 47 #[.slice (some ⟨g, 0, none⟩) ks.length cap, .int .i64 k] w fun e w' => e = .returned (.int .i64 (kAtK k ks ks.length)) ∧ KO w' lo hi g ks.length vs (markK k ks) ∧ OnlyP (inG g vs) w w' := by
 have hML := markK_length k ks
 have hni : (ks.length : Int) ≤ 1048576 := by omega
 go_enter Tryz.func47, Tryz.ntmps47
 go_wp2
 go_loopw [1, 5] (fun s i wr => ∃ j : Nat, i = .int .i64 j ∧ j ≤ ks.length ∧ s = .int .i64 (kAtK k ks j) ∧ KO wr lo hi g ks.length vs (mixK (markK k ks) ks j) ∧ OnlyP (inG g vs) w wr) (fun _ i _ => ks.length - (intOf i).toNat)
 case atStart => exact ⟨0, rfl, by omega, by show _ = Value.int .i64 (k + 13 * (0 : Int) + (0 : Int)); congr 1; omega, by rw [mixK_zero]; exact f, OnlyP.refl _ _⟩
 case round =>
   obtain ⟨j, rfl, hj, rfl, fr, hO⟩ := hrel
   by_cases hlt : j < ks.length
   · have hlt' : (j : Int) < (ks.length : Int) := by omega
     have hm : j < (mixK (markK k ks) ks j).length := by rw [mixK_length hML hj]; exact hlt
     have hv : j < vs.length := by rw [fr.len]; exact hm
     obtain ⟨cz, c13⟩ := fr.got j hm hv
     have ho := fr.own j hm hv
     have hfar := fr.far j hv
     rw [mixK_at hML hlt hm] at cz ho
     have hset := mixK_set hML hlt (by rw [hML]; exact hlt)
     rw [markK_get k ks j (by rw [hML]; exact hlt) hlt] at hset
     have hmo := sumK_mono ks (show j + 1 ≤ ks.length by omega)
     rw [sumK_next hlt] at hmo
     have hk2 := kAtK_next (k := k) hlt
     have hkb : k ≤ kAtK k ks j ∧ kAtK k ks j ≤ 200000000 := by unfold kAtK; omega
     have FZ : Hid (∀ m, m < 14 → wr.frozen? ⟨g, j * 14 + m, none⟩ = false) := fun m hm => (fr.any (j * 14 + m) (by omega)).2
     have g0 := fr.g0
     have g1 := fr.g1
     have tp := fr.top
     obtain ⟨K, hK⟩ : ∃ K, kAtK k ks j = K := ⟨_, rfl⟩
     rw [hK] at hset hk2 hkb ⊢
     obtain ⟨cc, hx⟩ : ∃ x, ks[j] = x := ⟨_, rfl⟩
     rw [hx] at cz ho hset hmo hk2
     obtain ⟨xs, hxs⟩ : ∃ xs, cc.xs = xs := ⟨_, rfl⟩
     rw [hxs] at ho hset hmo hk2
     obtain ⟨va, hva⟩ : ∃ va, vs[j] = va := ⟨_, rfl⟩
     rw [hva] at c13 ho hfar
     have HVA : Hid (vs[j] = va) := hva
     have HSET : Hid ((mixK (markK k ks) ks j).set j (mk1 K xs.length) = mixK (markK k ks) ks (j + 1)) := hset
     have HK2 : Hid (kAtK k ks (j + 1) = K + 13 + (xs.length : Int)) := hk2
     have HFR : Hid (KO wr lo hi g ks.length vs (mixK (markK k ks) ks j)) := fr
     have hxl : xs.length ≤ 1048576 := by omega
     have hkb0 := hkb.1
     have hkb1 := hkb.2
     obtain ⟨sa, sc, e, hcp, hio⟩ := ho
     subst e
     have hgw : g < wr.heap.size := by omega
     have d1 : Hid (wr.cell? ⟨g, j * 14 + 1, none⟩ = some (.int .i64 cc.lf)) := cz 1 _ rfl
     have d2 : Hid (wr.cell? ⟨g, j * 14 + 2, none⟩ = some (.int .i64 cc.pl)) := cz 2 _ rfl
     have d3 : Hid (wr.cell? ⟨g, j * 14 + 3, none⟩ = some (.int .i64 cc.k)) := cz 3 _ rfl
     have d4 : Hid (wr.cell? ⟨g, j * 14 + 4, none⟩ = some (.int .i64 cc.wn)) := cz 4 _ rfl
     have d5 : Hid (wr.cell? ⟨g, j * 14 + 5, none⟩ = some (.int .i64 cc.th)) := cz 5 _ rfl
     have d6 : Hid (wr.cell? ⟨g, j * 14 + 6, none⟩ = some (.int .i64 cc.fl)) := cz 6 _ rfl
     have d7 : Hid (wr.cell? ⟨g, j * 14 + 7, none⟩ = some (.int .i64 cc.ac)) := cz 7 _ rfl
     have d8 : Hid (wr.cell? ⟨g, j * 14 + 8, none⟩ = some (.int .i64 cc.la)) := cz 8 _ rfl
     have d9 : Hid (wr.cell? ⟨g, j * 14 + 9, none⟩ = some (.int .i64 cc.og)) := cz 9 _ rfl
     have d10 : Hid (wr.cell? ⟨g, j * 14 + 10, none⟩ = some (.int .i64 cc.st)) := cz 10 _ rfl
     have d11 : Hid (wr.cell? ⟨g, j * 14 + 11, none⟩ = some (.int .i64 cc.fr)) := cz 11 _ rfl
     have d12 : Hid (wr.cell? ⟨g, j * 14 + 12, none⟩ = some (.bool cc.sl)) := cz 12 _ rfl
     have d13 : Hid (wr.cell? ⟨g, j * 14 + 13, none⟩ = some (.slice sa xs.length sc)) := c13
     have c0 : wr.cell? ⟨g, j * 14, none⟩ = some (.int .i64 cc.id) := cz 0 _ rfl
     have u0 : wr.frozen? ⟨g, j * 14, none⟩ = false := FZ.out 0 (by omega)
     have HAL : Hid (∀ m, m < (mvs K).length → (wr.cell? ⟨g, j * 14 + m, none⟩).isSome = true) := fun m hm' => by
       obtain ⟨z, hz⟩ := (fr.any (j * 14 + m) (by have : m < 13 := hm'; omega)).1
       rw [hz]
       rfl
     clear hva hx hxs hK hset hk2 fr hkb hmo cz c13
     have HIO : Hid (IO wr lo hi (.slice sa xs.length sc) xs) := ⟨sa, sc, rfl, hcp, hio⟩
     clear hio
     go_upto_region 6 with (fail)
     obtain ⟨W1, h1⟩ : ∃ x, x = wr.setCells g (j * 14) [.int .i64 (K)] := ⟨_, rfl⟩
     have h' : wr.setCell ⟨g, j * 14, none⟩ (.int .i64 (K)) = W1 := by rw [h1]; rfl
     rw [h']
     clear h' c0 u0
     replace h1 : Hid (W1 = wr.setCells g (j * 14) [.int .i64 (K)]) := h1
     have c1 : W1.cell? ⟨g, j * 14 + 1, none⟩ = some (.int .i64 cc.lf) := by rw [h1.out]; exact (World.cell?_setCells_out g _ _ wr ⟨g, j * 14 + 1, none⟩ (fun _ _ => .inr (Nat.le_refl _))).trans d1.out
     have u1 : W1.frozen? ⟨g, j * 14 + 1, none⟩ = false := by rw [h1.out, World.frozen?_setCells]; exact (FZ.out 1 (by omega))
     go_upto_region 8 with (fail)
     obtain ⟨W2, h2⟩ : ∃ x, x = wr.setCells g (j * 14) [.int .i64 (K), .int .i64 (K + 1)] := ⟨_, rfl⟩
     have h' : W1.setCell ⟨g, j * 14 + 1, none⟩ (.int .i64 (K + 1)) = W2 := by rw [h2, h1.out]; rfl
     rw [h']
     clear h' c1 u1 h1
     replace h2 : Hid (W2 = wr.setCells g (j * 14) [.int .i64 (K), .int .i64 (K + 1)]) := h2
     have c2 : W2.cell? ⟨g, j * 14 + 2, none⟩ = some (.int .i64 cc.pl) := by rw [h2.out]; exact (World.cell?_setCells_out g _ _ wr ⟨g, j * 14 + 2, none⟩ (fun _ _ => .inr (Nat.le_refl _))).trans d2.out
     have u2 : W2.frozen? ⟨g, j * 14 + 2, none⟩ = false := by rw [h2.out, World.frozen?_setCells]; exact (FZ.out 2 (by omega))
     go_upto_region 10 with (fail)
     obtain ⟨W3, h3⟩ : ∃ x, x = wr.setCells g (j * 14) [.int .i64 (K), .int .i64 (K + 1), .int .i64 (K + 1 + 1)] := ⟨_, rfl⟩
     have h' : W2.setCell ⟨g, j * 14 + 2, none⟩ (.int .i64 (K + 1 + 1)) = W3 := by rw [h3, h2.out]; rfl
     rw [h']
     clear h' c2 u2 h2
     replace h3 : Hid (W3 = wr.setCells g (j * 14) [.int .i64 (K), .int .i64 (K + 1), .int .i64 (K + 1 + 1)]) := h3
     have c3 : W3.cell? ⟨g, j * 14 + 3, none⟩ = some (.int .i64 cc.k) := by rw [h3.out]; exact (World.cell?_setCells_out g _ _ wr ⟨g, j * 14 + 3, none⟩ (fun _ _ => .inr (Nat.le_refl _))).trans d3.out
     have u3 : W3.frozen? ⟨g, j * 14 + 3, none⟩ = false := by rw [h3.out, World.frozen?_setCells]; exact (FZ.out 3 (by omega))
     go_upto_region 12 with (fail)
     obtain ⟨W4, h4⟩ : ∃ x, x = wr.setCells g (j * 14) [.int .i64 (K), .int .i64 (K + 1), .int .i64 (K + 1 + 1), .int .i64 (K + 1 + 1 + 1)] := ⟨_, rfl⟩
     have h' : W3.setCell ⟨g, j * 14 + 3, none⟩ (.int .i64 (K + 1 + 1 + 1)) = W4 := by rw [h4, h3.out]; rfl
     rw [h']
     clear h' c3 u3 h3
     replace h4 : Hid (W4 = wr.setCells g (j * 14) [.int .i64 (K), .int .i64 (K + 1), .int .i64 (K + 1 + 1), .int .i64 (K + 1 + 1 + 1)]) := h4
     have c4 : W4.cell? ⟨g, j * 14 + 4, none⟩ = some (.int .i64 cc.wn) := by rw [h4.out]; exact (World.cell?_setCells_out g _ _ wr ⟨g, j * 14 + 4, none⟩ (fun _ _ => .inr (Nat.le_refl _))).trans d4.out
     have u4 : W4.frozen? ⟨g, j * 14 + 4, none⟩ = false := by rw [h4.out, World.frozen?_setCells]; exact (FZ.out 4 (by omega))
     go_upto_region 14 with (fail)
     obtain ⟨W5, h5⟩ : ∃ x, x = wr.setCells g (j * 14) [.int .i64 (K), .int .i64 (K + 1), .int .i64 (K + 1 + 1), .int .i64 (K + 1 + 1 + 1), .int .i64 (K + 1 + 1 + 1 + 1)] := ⟨_, rfl⟩
     have h' : W4.setCell ⟨g, j * 14 + 4, none⟩ (.int .i64 (K + 1 + 1 + 1 + 1)) = W5 := by rw [h5, h4.out]; rfl
     rw [h']
     clear h' c4 u4 h4
     replace h5 : Hid (W5 = wr.setCells g (j * 14) [.int .i64 (K), .int .i64 (K + 1), .int .i64 (K + 1 + 1), .int .i64 (K + 1 + 1 + 1), .int .i64 (K + 1 + 1 + 1 + 1)]) := h5
     have c5 : W5.cell? ⟨g, j * 14 + 5, none⟩ = some (.int .i64 cc.th) := by rw [h5.out]; exact (World.cell?_setCells_out g _ _ wr ⟨g, j * 14 + 5, none⟩ (fun _ _ => .inr (Nat.le_refl _))).trans d5.out
     have u5 : W5.frozen? ⟨g, j * 14 + 5, none⟩ = false := by rw [h5.out, World.frozen?_setCells]; exact (FZ.out 5 (by omega))
     go_upto_region 16 with (fail)
     obtain ⟨W6, h6⟩ : ∃ x, x = wr.setCells g (j * 14) [.int .i64 (K), .int .i64 (K + 1), .int .i64 (K + 1 + 1), .int .i64 (K + 1 + 1 + 1), .int .i64 (K + 1 + 1 + 1 + 1), .int .i64 (K + 1 + 1 + 1 + 1 + 1)] := ⟨_, rfl⟩
     have h' : W5.setCell ⟨g, j * 14 + 5, none⟩ (.int .i64 (K + 1 + 1 + 1 + 1 + 1)) = W6 := by rw [h6, h5.out]; rfl
     rw [h']
     clear h' c5 u5 h5
     replace h6 : Hid (W6 = wr.setCells g (j * 14) [.int .i64 (K), .int .i64 (K + 1), .int .i64 (K + 1 + 1), .int .i64 (K + 1 + 1 + 1), .int .i64 (K + 1 + 1 + 1 + 1), .int .i64 (K + 1 + 1 + 1 + 1 + 1)]) := h6
     have c6 : W6.cell? ⟨g, j * 14 + 6, none⟩ = some (.int .i64 cc.fl) := by rw [h6.out]; exact (World.cell?_setCells_out g _ _ wr ⟨g, j * 14 + 6, none⟩ (fun _ _ => .inr (Nat.le_refl _))).trans d6.out
     have u6 : W6.frozen? ⟨g, j * 14 + 6, none⟩ = false := by rw [h6.out, World.frozen?_setCells]; exact (FZ.out 6 (by omega))
     go_upto_region 18 with (fail)
     obtain ⟨W7, h7⟩ : ∃ x, x = wr.setCells g (j * 14) [.int .i64 (K), .int .i64 (K + 1), .int .i64 (K + 1 + 1), .int .i64 (K + 1 + 1 + 1), .int .i64 (K + 1 + 1 + 1 + 1), .int .i64 (K + 1 + 1 + 1 + 1 + 1), .int .i64 (K + 1 + 1 + 1 + 1 + 1 + 1)] := ⟨_, rfl⟩
     have h' : W6.setCell ⟨g, j * 14 + 6, none⟩ (.int .i64 (K + 1 + 1 + 1 + 1 + 1 + 1)) = W7 := by rw [h7, h6.out]; rfl
     rw [h']
     clear h' c6 u6 h6
     replace h7 : Hid (W7 = wr.setCells g (j * 14) [.int .i64 (K), .int .i64 (K + 1), .int .i64 (K + 1 + 1), .int .i64 (K + 1 + 1 + 1), .int .i64 (K + 1 + 1 + 1 + 1), .int .i64 (K + 1 + 1 + 1 + 1 + 1), .int .i64 (K + 1 + 1 + 1 + 1 + 1 + 1)]) := h7
     have c7 : W7.cell? ⟨g, j * 14 + 7, none⟩ = some (.int .i64 cc.ac) := by rw [h7.out]; exact (World.cell?_setCells_out g _ _ wr ⟨g, j * 14 + 7, none⟩ (fun _ _ => .inr (Nat.le_refl _))).trans d7.out
     have u7 : W7.frozen? ⟨g, j * 14 + 7, none⟩ = false := by rw [h7.out, World.frozen?_setCells]; exact (FZ.out 7 (by omega))
     go_upto_region 20 with (fail)
     obtain ⟨W8, h8⟩ : ∃ x, x = wr.setCells g (j * 14) [.int .i64 (K), .int .i64 (K + 1), .int .i64 (K + 1 + 1), .int .i64 (K + 1 + 1 + 1), .int .i64 (K + 1 + 1 + 1 + 1), .int .i64 (K + 1 + 1 + 1 + 1 + 1), .int .i64 (K + 1 + 1 + 1 + 1 + 1 + 1), .int .i64 (K + 1 + 1 + 1 + 1 + 1 + 1 + 1)] := ⟨_, rfl⟩
     have h' : W7.setCell ⟨g, j * 14 + 7, none⟩ (.int .i64 (K + 1 + 1 + 1 + 1 + 1 + 1 + 1)) = W8 := by rw [h8, h7.out]; rfl
     rw [h']
     clear h' c7 u7 h7
     replace h8 : Hid (W8 = wr.setCells g (j * 14) [.int .i64 (K), .int .i64 (K + 1), .int .i64 (K + 1 + 1), .int .i64 (K + 1 + 1 + 1), .int .i64 (K + 1 + 1 + 1 + 1), .int .i64 (K + 1 + 1 + 1 + 1 + 1), .int .i64 (K + 1 + 1 + 1 + 1 + 1 + 1), .int .i64 (K + 1 + 1 + 1 + 1 + 1 + 1 + 1)]) := h8
     have c8 : W8.cell? ⟨g, j * 14 + 8, none⟩ = some (.int .i64 cc.la) := by rw [h8.out]; exact (World.cell?_setCells_out g _ _ wr ⟨g, j * 14 + 8, none⟩ (fun _ _ => .inr (Nat.le_refl _))).trans d8.out
     have u8 : W8.frozen? ⟨g, j * 14 + 8, none⟩ = false := by rw [h8.out, World.frozen?_setCells]; exact (FZ.out 8 (by omega))
     go_upto_region 22 with (fail)
     obtain ⟨W9, h9⟩ : ∃ x, x = wr.setCells g (j * 14) [.int .i64 (K), .int .i64 (K + 1), .int .i64 (K + 1 + 1), .int .i64 (K + 1 + 1 + 1), .int .i64 (K + 1 + 1 + 1 + 1), .int .i64 (K + 1 + 1 + 1 + 1 + 1), .int .i64 (K + 1 + 1 + 1 + 1 + 1 + 1), .int .i64 (K + 1 + 1 + 1 + 1 + 1 + 1 + 1), .int .i64 (K + 1 + 1 + 1 + 1 + 1 + 1 + 1 + 1)] := ⟨_, rfl⟩
     have h' : W8.setCell ⟨g, j * 14 + 8, none⟩ (.int .i64 (K + 1 + 1 + 1 + 1 + 1 + 1 + 1 + 1)) = W9 := by rw [h9, h8.out]; rfl
     rw [h']
     clear h' c8 u8 h8
     replace h9 : Hid (W9 = wr.setCells g (j * 14) [.int .i64 (K), .int .i64 (K + 1), .int .i64 (K + 1 + 1), .int .i64 (K + 1 + 1 + 1), .int .i64 (K + 1 + 1 + 1 + 1), .int .i64 (K + 1 + 1 + 1 + 1 + 1), .int .i64 (K + 1 + 1 + 1 + 1 + 1 + 1), .int .i64 (K + 1 + 1 + 1 + 1 + 1 + 1 + 1), .int .i64 (K + 1 + 1 + 1 + 1 + 1 + 1 + 1 + 1)]) := h9
     have c9 : W9.cell? ⟨g, j * 14 + 9, none⟩ = some (.int .i64 cc.og) := by rw [h9.out]; exact (World.cell?_setCells_out g _ _ wr ⟨g, j * 14 + 9, none⟩ (fun _ _ => .inr (Nat.le_refl _))).trans d9.out
     have u9 : W9.frozen? ⟨g, j * 14 + 9, none⟩ = false := by rw [h9.out, World.frozen?_setCells]; exact (FZ.out 9 (by omega))
     go_upto_region 24 with (fail)
     obtain ⟨W10, h10⟩ : ∃ x, x = wr.setCells g (j * 14) [.int .i64 (K), .int .i64 (K + 1), .int .i64 (K + 1 + 1), .int .i64 (K + 1 + 1 + 1), .int .i64 (K + 1 + 1 + 1 + 1), .int .i64 (K + 1 + 1 + 1 + 1 + 1), .int .i64 (K + 1 + 1 + 1 + 1 + 1 + 1), .int .i64 (K + 1 + 1 + 1 + 1 + 1 + 1 + 1), .int .i64 (K + 1 + 1 + 1 + 1 + 1 + 1 + 1 + 1), .int .i64 (K + 1 + 1 + 1 + 1 + 1 + 1 + 1 + 1 + 1)] := ⟨_, rfl⟩
     have h' : W9.setCell ⟨g, j * 14 + 9, none⟩ (.int .i64 (K + 1 + 1 + 1 + 1 + 1 + 1 + 1 + 1 + 1)) = W10 := by rw [h10, h9.out]; rfl
     rw [h']
     clear h' c9 u9 h9
     replace h10 : Hid (W10 = wr.setCells g (j * 14) [.int .i64 (K), .int .i64 (K + 1), .int .i64 (K + 1 + 1), .int .i64 (K + 1 + 1 + 1), .int .i64 (K + 1 + 1 + 1 + 1), .int .i64 (K + 1 + 1 + 1 + 1 + 1), .int .i64 (K + 1 + 1 + 1 + 1 + 1 + 1), .int .i64 (K + 1 + 1 + 1 + 1 + 1 + 1 + 1), .int .i64 (K + 1 + 1 + 1 + 1 + 1 + 1 + 1 + 1), .int .i64 (K + 1 + 1 + 1 + 1 + 1 + 1 + 1 + 1 + 1)]) := h10
     have c10 : W10.cell? ⟨g, j * 14 + 10, none⟩ = some (.int .i64 cc.st) := by rw [h10.out]; exact (World.cell?_setCells_out g _ _ wr ⟨g, j * 14 + 10, none⟩ (fun _ _ => .inr (Nat.le_refl _))).trans d10.out
     have u10 : W10.frozen? ⟨g, j * 14 + 10, none⟩ = false := by rw [h10.out, World.frozen?_setCells]; exact (FZ.out 10 (by omega))
     go_upto_region 26 with (fail)
     obtain ⟨W11, h11⟩ : ∃ x, x = wr.setCells g (j * 14) [.int .i64 (K), .int .i64 (K + 1), .int .i64 (K + 1 + 1), .int .i64 (K + 1 + 1 + 1), .int .i64 (K + 1 + 1 + 1 + 1), .int .i64 (K + 1 + 1 + 1 + 1 + 1), .int .i64 (K + 1 + 1 + 1 + 1 + 1 + 1), .int .i64 (K + 1 + 1 + 1 + 1 + 1 + 1 + 1), .int .i64 (K + 1 + 1 + 1 + 1 + 1 + 1 + 1 + 1), .int .i64 (K + 1 + 1 + 1 + 1 + 1 + 1 + 1 + 1 + 1), .int .i64 (K + 1 + 1 + 1 + 1 + 1 + 1 + 1 + 1 + 1 + 1)] := ⟨_, rfl⟩
     have h' : W10.setCell ⟨g, j * 14 + 10, none⟩ (.int .i64 (K + 1 + 1 + 1 + 1 + 1 + 1 + 1 + 1 + 1 + 1)) = W11 := by rw [h11, h10.out]; rfl
     rw [h']
     clear h' c10 u10 h10
     replace h11 : Hid (W11 = wr.setCells g (j * 14) [.int .i64 (K), .int .i64 (K + 1), .int .i64 (K + 1 + 1), .int .i64 (K + 1 + 1 + 1), .int .i64 (K + 1 + 1 + 1 + 1), .int .i64 (K + 1 + 1 + 1 + 1 + 1), .int .i64 (K + 1 + 1 + 1 + 1 + 1 + 1), .int .i64 (K + 1 + 1 + 1 + 1 + 1 + 1 + 1), .int .i64 (K + 1 + 1 + 1 + 1 + 1 + 1 + 1 + 1), .int .i64 (K + 1 + 1 + 1 + 1 + 1 + 1 + 1 + 1 + 1), .int .i64 (K + 1 + 1 + 1 + 1 + 1 + 1 + 1 + 1 + 1 + 1)]) := h11
     have c11 : W11.cell? ⟨g, j * 14 + 11, none⟩ = some (.int .i64 cc.fr) := by rw [h11.out]; exact (World.cell?_setCells_out g _ _ wr ⟨g, j * 14 + 11, none⟩ (fun _ _ => .inr (Nat.le_refl _))).trans d11.out
     have u11 : W11.frozen? ⟨g, j * 14 + 11, none⟩ = false := by rw [h11.out, World.frozen?_setCells]; exact (FZ.out 11 (by omega))
     go_upto_region 28 with (fail)
     obtain ⟨W12, h12⟩ : ∃ x, x = wr.setCells g (j * 14) [.int .i64 (K), .int .i64 (K + 1), .int .i64 (K + 1 + 1), .int .i64 (K + 1 + 1 + 1), .int .i64 (K + 1 + 1 + 1 + 1), .int .i64 (K + 1 + 1 + 1 + 1 + 1), .int .i64 (K + 1 + 1 + 1 + 1 + 1 + 1), .int .i64 (K + 1 + 1 + 1 + 1 + 1 + 1 + 1), .int .i64 (K + 1 + 1 + 1 + 1 + 1 + 1 + 1 + 1), .int .i64 (K + 1 + 1 + 1 + 1 + 1 + 1 + 1 + 1 + 1), .int .i64 (K + 1 + 1 + 1 + 1 + 1 + 1 + 1 + 1 + 1 + 1), .int .i64 (K + 1 + 1 + 1 + 1 + 1 + 1 + 1 + 1 + 1 + 1 + 1)] := ⟨_, rfl⟩
     have h' : W11.setCell ⟨g, j * 14 + 11, none⟩ (.int .i64 (K + 1 + 1 + 1 + 1 + 1 + 1 + 1 + 1 + 1 + 1 + 1)) = W12 := by rw [h12, h11.out]; rfl
     rw [h']
     clear h' c11 u11 h11
     replace h12 : Hid (W12 = wr.setCells g (j * 14) [.int .i64 (K), .int .i64 (K + 1), .int .i64 (K + 1 + 1), .int .i64 (K + 1 + 1 + 1), .int .i64 (K + 1 + 1 + 1 + 1), .int .i64 (K + 1 + 1 + 1 + 1 + 1), .int .i64 (K + 1 + 1 + 1 + 1 + 1 + 1), .int .i64 (K + 1 + 1 + 1 + 1 + 1 + 1 + 1), .int .i64 (K + 1 + 1 + 1 + 1 + 1 + 1 + 1 + 1), .int .i64 (K + 1 + 1 + 1 + 1 + 1 + 1 + 1 + 1 + 1), .int .i64 (K + 1 + 1 + 1 + 1 + 1 + 1 + 1 + 1 + 1 + 1), .int .i64 (K + 1 + 1 + 1 + 1 + 1 + 1 + 1 + 1 + 1 + 1 + 1)]) := h12
     have c12 : W12.cell? ⟨g, j * 14 + 12, none⟩ = some (.bool cc.sl) := by rw [h12.out]; exact (World.cell?_setCells_out g _ _ wr ⟨g, j * 14 + 12, none⟩ (fun _ _ => .inr (Nat.le_refl _))).trans d12.out
     have u12 : W12.frozen? ⟨g, j * 14 + 12, none⟩ = false := by rw [h12.out, World.frozen?_setCells]; exact (FZ.out 12 (by omega))
     go_upto_region 30 with (fail)
     obtain ⟨W13, h13⟩ : ∃ x, x = wr.setCells g (j * 14) [.int .i64 (K), .int .i64 (K + 1), .int .i64 (K + 1 + 1), .int .i64 (K + 1 + 1 + 1), .int .i64 (K + 1 + 1 + 1 + 1), .int .i64 (K + 1 + 1 + 1 + 1 + 1), .int .i64 (K + 1 + 1 + 1 + 1 + 1 + 1), .int .i64 (K + 1 + 1 + 1 + 1 + 1 + 1 + 1), .int .i64 (K + 1 + 1 + 1 + 1 + 1 + 1 + 1 + 1), .int .i64 (K + 1 + 1 + 1 + 1 + 1 + 1 + 1 + 1 + 1), .int .i64 (K + 1 + 1 + 1 + 1 + 1 + 1 + 1 + 1 + 1 + 1), .int .i64 (K + 1 + 1 + 1 + 1 + 1 + 1 + 1 + 1 + 1 + 1 + 1), .bool ((K + 1 + 1 + 1 + 1 + 1 + 1 + 1 + 1 + 1 + 1 + 1 + 1) % 3 == 0)] := ⟨_, rfl⟩
     have h' : W12.setCell ⟨g, j * 14 + 12, none⟩ (.bool ((K + 1 + 1 + 1 + 1 + 1 + 1 + 1 + 1 + 1 + 1 + 1 + 1) % 3 == 0)) = W13 := by rw [h13, h12.out]; rfl
     rw [h']
     clear h' c12 u12 h12
     replace h13 : Hid (W13 = wr.setCells g (j * 14) [.int .i64 (K), .int .i64 (K + 1), .int .i64 (K + 1 + 1), .int .i64 (K + 1 + 1 + 1), .int .i64 (K + 1 + 1 + 1 + 1), .int .i64 (K + 1 + 1 + 1 + 1 + 1), .int .i64 (K + 1 + 1 + 1 + 1 + 1 + 1), .int .i64 (K + 1 + 1 + 1 + 1 + 1 + 1 + 1), .int .i64 (K + 1 + 1 + 1 + 1 + 1 + 1 + 1 + 1), .int .i64 (K + 1 + 1 + 1 + 1 + 1 + 1 + 1 + 1 + 1), .int .i64 (K + 1 + 1 + 1 + 1 + 1 + 1 + 1 + 1 + 1 + 1), .int .i64 (K + 1 + 1 + 1 + 1 + 1 + 1 + 1 + 1 + 1 + 1 + 1), .bool ((K + 1 + 1 + 1 + 1 + 1 + 1 + 1 + 1 + 1 + 1 + 1 + 1) % 3 == 0)]) := h13
     obtain ⟨s1, s2, s3, s4⟩ := set14 (mvs K) HAL.out
     have h13' : W13 = wr.setCells g (j * 14) (mvs K) := h13.out
     rw [← h13'] at s1 s2 s3 s4
     have hsz : W13.heap.size = wr.heap.size := by rw [h13.out]; exact sizeCells _ _ _
     have e13 : W13.cell? ⟨g, j * 14 + 13, none⟩ = some (.slice sa xs.length sc) := (s2 _ (.inr (Nat.le_refl _))).trans d13.out
     have S1 : Hid (∀ m v, (mvs K)[m]? = some v → W13.cell? ⟨g, j * 14 + m, none⟩ = some v) := s1
     have S2 : Hid (∀ i, i < j * 14 ∨ j * 14 + (mvs K).length ≤ i → W13.cell? ⟨g, i, none⟩ = wr.cell? ⟨g, i, none⟩) := s2
     have S3 : Hid (∀ p, W13.frozen? p = wr.frozen? p) := s3
     have S4 : Hid (Only g wr W13) := s4
     have HI2 : Hid (IO W13 lo hi (.slice sa xs.length sc) xs) := IO.same HIO.out (by omega) (fun b eb => S4.out.block b (HIO.out.el eb).2.2 (fun e' => hfar (by rw [eb, e'])))
     clear s1 s2 s3 s4 h13 h13'
     go_wp2_with (first | (go_at_call 110; rw [show K + 1 + 1 + 1 + 1 + 1 + 1 + 1 + 1 + 1 + 1 + 1 + 1 + 1 = K + 13 by omega]; refine (markIO_any (K + 13) HI2.out hxl (by omega) (by omega)).mono ?_; rintro e w3 ⟨rfl, io3, o3⟩))
     have gc : ∀ i, w3.cell? ⟨g, i, none⟩ = W13.cell? ⟨g, i, none⟩ := fun i => o3.cell (p := ⟨g, i, none⟩) (by show g < W13.heap.size; omega) hfar
     have gf : ∀ i, w3.frozen? ⟨g, i, none⟩ = W13.frozen? ⟨g, i, none⟩ := fun i => o3.frozen (p := ⟨g, i, none⟩) (by show g < W13.heap.size; omega) hfar
     have hs3 := o3.size
     have hp := HFR.out.turn (i := j) (c := mk1 K xs.length) (v := .slice sa xs.length sc) (w' := w3) hm hv (by omega) (fun b h1 h2 h3 h4 => (o3.block b (by omega) (by rw [HVA.out] at h4; exact h4)).trans (S4.out.block b (by omega) h3)) (fun i hi => (gc i).trans (S2.out i (by rcases hi with hi | hi; exact .inl hi; exact .inr (by show j * 14 + 13 ≤ i; omega)))) (fun i => (gf i).trans (S3.out _)) (fun m u hu => (gc _).trans (S1.out m u hu)) ((gc _).trans e13) io3 (fun b e => by rw [HVA.out]; exact e)
     rw [HSET.out] at hp
     have hvs : vs.set j (.slice sa xs.length sc) = vs := by rw [← HVA.out]; exact List.set_getElem_self hv
     rw [hvs] at hp
     have HOI : OnlyP (inG g vs) w W13 := hO.two (OnlyP.ofOnly S4.out (.inl rfl))
     go_roundw
     case rel =>
       refine ⟨j + 1, by go_num, by omega, ?_, hp, HOI.two (OnlyP.ofO o3 (fun b e => .inr ⟨_, List.getElem_mem hv, by rw [HVA.out]; exact e⟩))⟩
       rw [HK2.out]
     case measure => first | (simp [intOf]; done) | (simp [intOf]; omega)
   · have e : j = ks.length := by omega
     subst e
     rw [mixK_all hML] at fr
     go_wp2
     go_ret
     exact ⟨rfl, fr, hO⟩
theorem markKNil_any (a : Option Addr) (cap : Nat) (k : Int) (w : World) (k0 : 0 ≤ k) (k1 : k ≤ 1000000000) : Calls Tryz.prog 47 #[.slice a 0 cap, .int .i64 k] w fun e w' => e = .returned (.int .i64 k) ∧ w' = w := by
 go_enter Tryz.func47, Tryz.ntmps47
 go_wp2
 refine wp_loop_rounds 1 ?_
 rw [rounds_succ]
 go_wp2
 go_ret
 exact ⟨rfl, rfl⟩
theorem heldKNil_any (a : Option Addr) (cap : Nat) (k : Int) (w : World) (k0 : 0 ≤ k) (k1 : k ≤ 1000000000) : Calls Tryz.prog 50 #[.slice a 0 cap, .int .i64 k] w fun e w' => e = .returned (.int .i64 k) ∧ w' = w := by
 go_enter Tryz.func50, Tryz.ntmps50
 go_wp2
 refine wp_loop_rounds 1 ?_
 rw [rounds_succ]
 go_wp2
 go_ret
 exact ⟨rfl, rfl⟩
theorem markKX_any {w : World} {lo hi n c : Nat} {a : Option Addr} {vs : List Value} {fs : List Kn} (k : Int) (h : KX w lo hi (.slice a n c) vs fs) (hn : fs.length + sumK fs fs.length ≤ 1048576) (k0 : 0 ≤ k) (k1 : k ≤ 100000000) :
   Calls Tryz.prog 47 #[.slice a n c, .int .i64 k] w fun e w' => e = .returned (.int .i64 (kAtK k fs fs.length)) ∧ KX w' lo hi (.slice a n c) vs (markK k fs) ∧ OnlyP (inV (.slice a n c) vs) w w' := by
 by_cases hz : fs = []
 · have hv : vs = [] := by
     rcases h with ⟨g, cap, e, hc, f⟩ | ⟨_, h2, _⟩
     · have := f.len
       rw [hz] at this
       exact List.eq_nil_of_length_eq_zero this
     · exact h2
   have hn0 : n = 0 := by have := h.kls.1; rw [hz] at this; exact this
   subst hz hv hn0
   refine (markKNil_any a c k w k0 (by omega)).mono ?_
   rintro e w' ⟨rfl, rfl⟩
   exact ⟨by rw [List.length_nil, kAtK_nil], .inr ⟨rfl, rfl, a, c, rfl⟩, OnlyP.refl _ _⟩
 · rcases h with ⟨g, cap, e, hc, f⟩ | ⟨h0, _⟩
   · injection e with e1 e2 e3
     subst e1 e2 e3
     have hv : vs ≠ [] := fun e => hz (by
       have := f.len
       rw [e] at this
       exact List.eq_nil_of_length_eq_zero this.symm)
     refine (markConns_any c k f hn k0 k1).mono ?_
     rintro e w' ⟨rfl, f', o'⟩
     exact ⟨rfl, .inl ⟨g, c, by rw [markK_length], by rw [markK_length]; exact hc, by rw [markK_length]; exact f'⟩, o'.weak (fun b hb => ⟨hv, hb⟩)⟩
   · exact absurd h0 hz
theorem heldKV_any {w : World} {lo hi n c : Nat} {a : Option Addr} {fs : List Kn} (k : Int) (h : KV w lo hi (.slice a n c) (markK k fs)) (hn : fs.length + sumK fs fs.length ≤ 1048576) (k0 : 0 ≤ k) (k1 : k ≤ 100000000) :
   Calls Tryz.prog 50 #[.slice a n c, .int .i64 k] w fun e w' => e = .returned (.int .i64 (kAtK k fs fs.length)) ∧ w' = w := by
 have hl := markK_length k fs
 rcases h with ⟨g, cap, vs, e, hc, f⟩ | ⟨e0, a', c', e⟩
 · injection e with e1 e2 e3
   rw [hl] at e2 f
   subst e1 e2 e3
   exact heldConns_any c k f hn k0 k1
 · rw [e0] at hl
   have h0 : fs = [] := List.eq_nil_of_length_eq_zero hl.symm
   subst h0
   injection e with e1 e2 e3
   subst e1 e2 e3
   refine (heldKNil_any a c k w k0 (by omega)).mono ?_
   rintro e w' ⟨rfl, rfl⟩
   exact ⟨by rw [List.length_nil, kAtK_nil], rfl⟩
theorem Lay.block {u u' : World} {b : Nat} {vs : List Value} (h : Lay u b vs) (hs : u.heap.size ≤ u'.heap.size) (hb : u'.heap[b]? = u.heap[b]?) : Lay u' b vs :=
 ⟨fun j v hv => (World.cell?_of_block (a := ⟨b, j, none⟩) hb).trans (h.cell j v hv), fun o => (World.frozen?_of_block (a := ⟨b, o, none⟩) hb).trans (h.free o), Nat.lt_of_lt_of_le h.lt hs⟩
/-- What stands behind the marks of a Lend. -/
def kL (k : Int) (T O P : List Q4) : Int := k + 4 * (T.length : Int) + 4 * (O.length : Int) + 4 * (P.length : Int)
def kE (k : Int) (T O P : List Q4) (L : List F8) (K : List Kn) : Int := kAtK (kAt (kL k T O P) L L.length) K K.length
/-- An Engine that is marked from k on. -/
def EngM (w : World) (lo hi : Nat) (sT sO sP vL vK : Value) (k : Int) (T O P : List Q4) (L : List F8) (K : List Kn) : Prop :=
 Eng w lo hi sT sO sP vL vK (marks4 k T.length) (marks4 (k + 4 * (T.length : Int)) O.length) (marks4 (k + 4 * (T.length : Int) + 4 * (O.length : Int)) P.length) (markF (kL k T O P) L) (markK (kAt (kL k T O P) L L.length) K)
set_option maxHeartbeats 4000000 in
theorem markEngine_any {w : World} {lo hi : Nat} (now nx : Int) {aT aO aP aL aK : Option Addr} {nT cT nO cO nP cP nL cL nK cK : Nat} {T O P : List Q4} {L : List F8} {K : List Kn} (k : Int) (h : Eng w lo hi (.slice aT nT cT) (.slice aO nO cO) (.slice aP nP cP) (.slice aL nL cL) (.slice aK nK cK) T O P L K)
   (hn : T.length + O.length + P.length ≤ 1048576) (hL : L.length + sumL L L.length ≤ 1048576) (hK : K.length + sumK K K.length ≤ 1048576) (k0 : 0 ≤ k) (k1 : k ≤ 50000000) :
   Calls Tryz.prog 12 #[engV now aT nT cT aO nO cO aP nP cP aL nL cL aK nK cK nx, .int .i64 k] w fun e w' => e = .returned (.int .i64 (kE k T O P L K)) ∧ EngM w' lo hi (.slice aT nT cT) (.slice aO nO cO) (.slice aP nP cP) (.slice aL nL cL) (.slice aK nK cK) k T O P L K ∧ OnlyI lo hi w w' := by
 obtain ⟨lo1, hi1, uL, uK, g1, g2, o⟩ := h
 have H : Hid (EOwn w lo1 hi1 (.slice aT nT cT) (.slice aO nO cO) (.slice aP nP cP) (.slice aL nL cL) uL (.slice aK nK cK) uK T O P L K) := o
 have t1 := o.top
 clear o
 obtain ⟨v, hv⟩ : ∃ v, v = w.alloc (.cells #[.int .i64 now, .slice aT nT cT, .slice aO nO cO, .slice aP nP cP, .slice aL nL cL, .slice aK nK cK, .int .i64 nx] 38) := ⟨_, rfl⟩
 have nb : Below w.heap.size w v := by rw [hv]; exact new_below _ _
 have L0 : Lay v w.heap.size [.int .i64 now, .slice aT nT cT, .slice aO nO cO, .slice aP nP cP, .slice aL nL cL, .slice aK nK cK, .int .i64 nx] := by rw [hv]; exact lay_new [.int .i64 now, .slice aT nT cT, .slice aO nO cO, .slice aP nP cP, .slice aL nL cL, .slice aK nK cK, .int .i64 nx] _ rfl
 have zv := L0.lt
 have hk1 : 0 ≤ kL k T O P ∧ kL k T O P ≤ 70000000 := by unfold kL; omega
 have hk2 : 0 ≤ kAt (kL k T O P) L L.length ∧ kAt (kL k T O P) L L.length ≤ 80000000 := by unfold kAt; omega
 obtain ⟨M1, hM1⟩ : ∃ m, kL k T O P = m := ⟨_, rfl⟩
 obtain ⟨M2, hM2⟩ : ∃ m, kAt M1 L L.length = m := ⟨_, rfl⟩
 obtain ⟨M3, hM3⟩ : ∃ m, kAtK M2 K K.length = m := ⟨_, rfl⟩
 have HM1 : Hid (kL k T O P = M1) := hM1
 have HM2 : Hid (kAt M1 L L.length = M2) := hM2
 have HM3 : Hid (kAtK M2 K K.length = M3) := hM3
 unfold EngM kE
 rw [hM1, hM2] at hk2
 rw [hM1] at hk1
 rw [hM1, hM2, hM3]
 clear hM1 hM2 hM3
 go_enter Tryz.func12, Tryz.ntmps12
 go_upto_region 1 with (fail)
 rw [← hv]
 have r1 : v.cell? ⟨w.heap.size, 1, none⟩ = some (.slice aT nT cT) := L0.cell 1 _ rfl; have r2 : v.cell? ⟨w.heap.size, 2, none⟩ = some (.slice aO nO cO) := L0.cell 2 _ rfl; have r3 : v.cell? ⟨w.heap.size, 3, none⟩ = some (.slice aP nP cP) := L0.cell 3 _ rfl
 have x1 : ∀ b, inE (.slice aT nT cT) (.slice aO nO cO) (.slice aP nP cP) (.slice aL nL cL) uL (.slice aK nK cK) uK b → b ≠ w.heap.size := fun b hb e => by have := H.out.bd hb; omega
 clear hv
 go_wp2_with (first
   | (go_at_call 45; refine (markLend_any k (H.out.l.next nb) (by omega) (by omega) (by omega) k0 (by omega)).mono ?_; rintro e w2 ⟨rfl, l2, o2⟩; rw [show k + 4 * (T.length : Int) + 4 * (O.length : Int) + 4 * (P.length : Int) = M1 from HM1.out]; have L2 := L0.block o2.size (o2.block _ zv (fun e => x1 _ (.inl e) rfl)); have s4 : w2.cell? ⟨w.heap.size, 4, none⟩ = some (.slice aL nL cL) := L2.cell 4 _ rfl)
   | (go_at_call 46; refine (markPX_any M1 ((H.out.next nb).p.onlyP o2 (fun b hv hb => H.out.d1 b hb hv)) hL hk1.1 (by omega)).mono ?_; rintro e w3 ⟨rfl, p3, o3⟩; rw [HM2.out]; have L3 := L2.block o3.size (o3.block _ L2.lt (fun e => x1 _ (.inr (.inl e)) rfl)); have u5 : w3.cell? ⟨w.heap.size, 5, none⟩ = some (.slice aK nK cK) := L3.cell 5 _ rfl)
   | (go_at_call 47; refine (markKX_any M2 (((H.out.next nb).k.onlyP o2 (fun b hv hb => H.out.d2 b hb hv)).onlyP o3 (fun b hv hb => H.out.d3 b hb hv)) hK hk2.1 (by omega)).mono ?_; rintro e w4 ⟨rfl, q4, o4⟩; rw [HM3.out]))
 go_ret
 have z2 := o2.size
 have z3 := o3.size
 have z4 := o4.size
 have zw := nb.size
 refine ⟨rfl, ⟨lo1, hi1, uL, uK, g1, g2, ?_⟩, ?_⟩
 · have l3 := l2.onlyP o3 (fun b e e' => H.out.d1 b (.inl e) e') (fun b e e' => H.out.d1 b (.inr (.inl e)) e') (fun b e e' => H.out.d1 b (.inr (.inr e)) e')
   have l4 := l3.onlyP o4 (fun b e e' => H.out.d2 b (.inl e) e') (fun b e e' => H.out.d2 b (.inr (.inl e)) e') (fun b e e' => H.out.d2 b (.inr (.inr e)) e')
   exact ⟨l4, H.out.lb, p3.onlyP o4 (fun b hv hb => H.out.d3 b hv hb), q4, H.out.d1, H.out.d2, H.out.d3, by omega⟩
 · have il : ∀ (p : Nat → Prop) {x y : World}, OnlyP p x y → (∀ b, p b → inE (.slice aT nT cT) (.slice aO nO cO) (.slice aP nP cP) (.slice aL nL cL) uL (.slice aK nK cK) uK b) → OnlyI lo hi x y := fun p x y o hp => ⟨o.os, o.tape, o.output, o.size, fun b hb hn => o.block b hb (fun e => by have := H.out.bd (hp b e); omega)⟩
   exact (OnlyI.of_below nb).trans ((il _ o2 (fun b e => .inl e)).trans ((il _ o3 (fun b e => .inr (.inl e))).trans (il _ o4 (fun b e => .inr (.inr e)))))
set_option maxHeartbeats 4000000 in
theorem heldEngine_any {w : World} {lo hi : Nat} (now nx : Int) {aT aO aP aL aK : Option Addr} {nT cT nO cO nP cP nL cL nK cK : Nat} {T O P : List Q4} {L : List F8} {K : List Kn} (k : Int) (h : EngM w lo hi (.slice aT nT cT) (.slice aO nO cO) (.slice aP nP cP) (.slice aL nL cL) (.slice aK nK cK) k T O P L K)
   (hn : T.length + O.length + P.length ≤ 1048576) (hL : L.length + sumL L L.length ≤ 1048576) (hK : K.length + sumK K K.length ≤ 1048576) (k0 : 0 ≤ k) (k1 : k ≤ 50000000) :
   Calls Tryz.prog 13 #[engV now aT nT cT aO nO cO aP nP cP aL nL cL aK nK cK nx, .int .i64 k] w fun e w' => e = .returned (.int .i64 (kE k T O P L K)) ∧ Below w.heap.size w w' := by
 unfold EngM at h
 have hk1 : 0 ≤ kL k T O P ∧ kL k T O P ≤ 70000000 := by unfold kL; omega
 have hk2 : 0 ≤ kAt (kL k T O P) L L.length ∧ kAt (kL k T O P) L L.length ≤ 80000000 := by unfold kAt; omega
 have hk3 := kAtK_pos (k := kAt (kL k T O P) L L.length) (ks := K) hk2.1 K.length
 unfold kE
 obtain ⟨M1, hM1⟩ : ∃ m, kL k T O P = m := ⟨_, rfl⟩
 obtain ⟨M2, hM2⟩ : ∃ m, kAt M1 L L.length = m := ⟨_, rfl⟩
 obtain ⟨M3, hM3⟩ : ∃ m, kAtK M2 K K.length = m := ⟨_, rfl⟩
 have HM1 : Hid (kL k T O P = M1) := hM1
 have HM2 : Hid (kAt M1 L L.length = M2) := hM2
 have HM3 : Hid (kAtK M2 K K.length = M3) := hM3
 rw [hM1, hM2] at hk2 h
 rw [hM1, hM2, hM3] at hk3
 rw [hM1] at hk1
 rw [hM1, hM2, hM3]
 clear hM1 hM2 hM3
 obtain ⟨lo1, hi1, uL, uK, _, _, o⟩ := h
 have HL : Hid (LV w lo1 (.slice aT nT cT) (.slice aO nO cO) (.slice aP nP cP) (marks4 k T.length) (marks4 (k + 4 * (T.length : Int)) O.length) (marks4 (k + 4 * (T.length : Int) + 4 * (O.length : Int)) P.length)) := o.l
 have HP : Hid (TV w lo1 hi1 (.slice aL nL cL) (markF M1 L)) := o.p.tv
 have HK : Hid (KV w lo1 hi1 (.slice aK nK cK) (markK M2 K)) := o.k.kv
 clear o
 have p1 : ¬ (M1 < 0) := by omega
 have p2 : ¬ (M2 < 0) := by omega
 have p3 : ¬ (M3 < 0) := by omega
 obtain ⟨v, hv⟩ : ∃ v, v = w.alloc (.cells #[.int .i64 now, .slice aT nT cT, .slice aO nO cO, .slice aP nP cP, .slice aL nL cL, .slice aK nK cK, .int .i64 nx] 38) := ⟨_, rfl⟩
 have nb : Below w.heap.size w v := by rw [hv]; exact new_below _ _
 have L0 : Lay v w.heap.size [.int .i64 now, .slice aT nT cT, .slice aO nO cO, .slice aP nP cP, .slice aL nL cL, .slice aK nK cK, .int .i64 nx] := by rw [hv]; exact lay_new [.int .i64 now, .slice aT nT cT, .slice aO nO cO, .slice aP nP cP, .slice aL nL cL, .slice aK nK cK, .int .i64 nx] _ rfl
 have q1 := hk1.1
 have q2 := hk1.2
 have q3 := hk2.1
 have q4 := hk2.2
 go_enter Tryz.func13, Tryz.ntmps13
 go_upto_region 1 with (fail)
 rw [← hv]
 have r1 : v.cell? ⟨w.heap.size, 1, none⟩ = some (.slice aT nT cT) := L0.cell 1 _ rfl; have r2 : v.cell? ⟨w.heap.size, 2, none⟩ = some (.slice aO nO cO) := L0.cell 2 _ rfl; have r3 : v.cell? ⟨w.heap.size, 3, none⟩ = some (.slice aP nP cP) := L0.cell 3 _ rfl
 clear hv
 go_wp2_with (first
   | (go_at_call 48; refine (heldLend_any k (HL.out.next nb) (by omega) (by omega) (by omega) k0 (by omega)).mono ?_; rintro e w2 ⟨rfl, b2⟩; rw [show k + 4 * (T.length : Int) + 4 * (O.length : Int) + 4 * (P.length : Int) = M1 from HM1.out]; have L2 := L0.next b2; have c2 := below_two nb b2; have s4 : w2.cell? ⟨w.heap.size, 4, none⟩ = some (.slice aL nL cL) := L2.cell 4 _ rfl)
   | (go_at_call 49; refine (heldPV_any M1 (HP.out.next c2) hL q1 (by omega)).mono ?_; rintro e w3 ⟨rfl, rfl⟩; rw [HM2.out]; have u5 : w3.cell? ⟨w.heap.size, 5, none⟩ = some (.slice aK nK cK) := L2.cell 5 _ rfl)
   | (go_at_call 50; refine (heldKV_any M2 (HK.out.next c2) hK q3 (by omega)).mono ?_; rintro e w4 ⟨rfl, rfl⟩; rw [HM3.out]))
 go_ret
 exact ⟨rfl, c2⟩
set_option maxHeartbeats 4000000 in
theorem toConn_any {w : World} {a : Option Addr} (cap : Nat) (c : Kn) (h : ISmp w.heap.size w a c.xs) (hn : c.xs.length ≤ 1048576) :
   Calls Tryz.prog 75 #[.agg #[.int .i64 c.id, .int .i64 c.lf, .int .i64 c.pl, .int .i64 c.k, .int .i64 c.wn, .int .i64 c.th, .int .i64 c.fl, .int .i64 c.ac, .int .i64 c.la, .int .i64 c.og, .int .i64 c.st, .int .i64 c.fr, .bool c.sl, .slice a c.xs.length cap]] w fun e w' => ∃ g, e = .returned (.agg #[.int .i64 c.id, .int .i64 c.lf, .int .i64 c.pl, .int .i64 c.k, .int .i64 c.wn, .int .i64 c.th, .int .i64 c.fl, .int .i64 c.ac, .int .i64 c.la, .int .i64 c.og, .int .i64 c.st, .int .i64 c.fr, .bool c.sl, .slice (some ⟨g, 0, none⟩) c.xs.length c.xs.length]) ∧ w.heap.size ≤ g ∧ g < w'.heap.size ∧ IFill w' g c.xs.length c.xs c.xs.length ∧ Below w.heap.size w w' := by
 go_enter Tryz.func75, Tryz.ntmps75
 go_upto_region 5 with (fail)
 obtain ⟨v, hv⟩ : ∃ v, v = ((w.alloc (.cells #[.int .i64 c.id, .int .i64 c.lf, .int .i64 c.pl, .int .i64 c.k, .int .i64 c.wn, .int .i64 c.th, .int .i64 c.fl, .int .i64 c.ac, .int .i64 c.la, .int .i64 c.og, .int .i64 c.st, .int .i64 c.fr, .bool c.sl, .slice a c.xs.length cap] 102)).alloc (.cells #[.int .i64 0, .int .i64 0, .int .i64 0, .int .i64 0, .int .i64 0, .int .i64 0, .int .i64 0, .int .i64 0, .int .i64 0, .int .i64 0, .int .i64 0, .int .i64 0, .bool false, .slice none 0 0] 66)).alloc (.cells #[.int .i64 c.id, .int .i64 c.lf, .int .i64 c.pl, .int .i64 0, .int .i64 0, .int .i64 0, .int .i64 0, .int .i64 0, .int .i64 0, .int .i64 0, .int .i64 0, .int .i64 0, .bool false, .slice none 0 0] 66) := ⟨_, rfl⟩
 rw [← hv]
 have L0 : Lay v (w.heap.size) [.int .i64 c.id, .int .i64 c.lf, .int .i64 c.pl, .int .i64 c.k, .int .i64 c.wn, .int .i64 c.th, .int .i64 c.fl, .int .i64 c.ac, .int .i64 c.la, .int .i64 c.og, .int .i64 c.st, .int .i64 c.fr, .bool c.sl, .slice a c.xs.length cap] := by
   rw [hv]
   exact (lay_new [.int .i64 c.id, .int .i64 c.lf, .int .i64 c.pl, .int .i64 c.k, .int .i64 c.wn, .int .i64 c.th, .int .i64 c.fl, .int .i64 c.ac, .int .i64 c.la, .int .i64 c.og, .int .i64 c.st, .int .i64 c.fr, .bool c.sl, .slice a c.xs.length cap] _ rfl).alloc _ _ |>.alloc _ _
 have L1 : Lay v (w.heap.size + 1) [.int .i64 0, .int .i64 0, .int .i64 0, .int .i64 0, .int .i64 0, .int .i64 0, .int .i64 0, .int .i64 0, .int .i64 0, .int .i64 0, .int .i64 0, .int .i64 0, .bool false, .slice none 0 0] := by
   rw [hv]
   exact (lay_new [.int .i64 0, .int .i64 0, .int .i64 0, .int .i64 0, .int .i64 0, .int .i64 0, .int .i64 0, .int .i64 0, .int .i64 0, .int .i64 0, .int .i64 0, .int .i64 0, .bool false, .slice none 0 0] _ (by simp)).alloc _ _
 have L2 : Lay v (w.heap.size + 1 + 1) [.int .i64 c.id, .int .i64 c.lf, .int .i64 c.pl, .int .i64 0, .int .i64 0, .int .i64 0, .int .i64 0, .int .i64 0, .int .i64 0, .int .i64 0, .int .i64 0, .int .i64 0, .bool false, .slice none 0 0] := by
   rw [hv]
   exact lay_new [.int .i64 c.id, .int .i64 c.lf, .int .i64 c.pl, .int .i64 0, .int .i64 0, .int .i64 0, .int .i64 0, .int .i64 0, .int .i64 0, .int .i64 0, .int .i64 0, .int .i64 0, .bool false, .slice none 0 0] _ (by simp)
 have bV : Below w.heap.size w v := by rw [hv]; go_grown
 clear hv
 have zv := bV.size
 have a3 : v.cell? ⟨w.heap.size, 3, none⟩ = some (.int .i64 c.k) := L0.cell 3 _ rfl
 have a4 : v.cell? ⟨w.heap.size, 4, none⟩ = some (.int .i64 c.wn) := L0.cell 4 _ rfl
 have a5 : v.cell? ⟨w.heap.size, 5, none⟩ = some (.int .i64 c.th) := L0.cell 5 _ rfl
 have a6 : v.cell? ⟨w.heap.size, 6, none⟩ = some (.int .i64 c.fl) := L0.cell 6 _ rfl
 have a7 : v.cell? ⟨w.heap.size, 7, none⟩ = some (.int .i64 c.ac) := L0.cell 7 _ rfl
 have a8 : v.cell? ⟨w.heap.size, 8, none⟩ = some (.int .i64 c.la) := L0.cell 8 _ rfl
 have a9 : v.cell? ⟨w.heap.size, 9, none⟩ = some (.int .i64 c.og) := L0.cell 9 _ rfl
 have a10 : v.cell? ⟨w.heap.size, 10, none⟩ = some (.int .i64 c.st) := L0.cell 10 _ rfl
 have a11 : v.cell? ⟨w.heap.size, 11, none⟩ = some (.int .i64 c.fr) := L0.cell 11 _ rfl
 have a12 : v.cell? ⟨w.heap.size, 12, none⟩ = some (.bool c.sl) := L0.cell 12 _ rfl
 have a13 : v.cell? ⟨w.heap.size, 13, none⟩ = some (.slice a c.xs.length cap) := L0.cell 13 _ rfl
 have b3 : v.cell? ⟨w.heap.size + 1 + 1, 3, none⟩ = some (.int .i64 0) := L2.cell 3 _ rfl
 have b4 : v.cell? ⟨w.heap.size + 1 + 1, 4, none⟩ = some (.int .i64 0) := L2.cell 4 _ rfl
 have b5 : v.cell? ⟨w.heap.size + 1 + 1, 5, none⟩ = some (.int .i64 0) := L2.cell 5 _ rfl
 have b6 : v.cell? ⟨w.heap.size + 1 + 1, 6, none⟩ = some (.int .i64 0) := L2.cell 6 _ rfl
 have b7 : v.cell? ⟨w.heap.size + 1 + 1, 7, none⟩ = some (.int .i64 0) := L2.cell 7 _ rfl
 have b8 : v.cell? ⟨w.heap.size + 1 + 1, 8, none⟩ = some (.int .i64 0) := L2.cell 8 _ rfl
 have b9 : v.cell? ⟨w.heap.size + 1 + 1, 9, none⟩ = some (.int .i64 0) := L2.cell 9 _ rfl
 have b10 : v.cell? ⟨w.heap.size + 1 + 1, 10, none⟩ = some (.int .i64 0) := L2.cell 10 _ rfl
 have b11 : v.cell? ⟨w.heap.size + 1 + 1, 11, none⟩ = some (.int .i64 0) := L2.cell 11 _ rfl
 have b12 : v.cell? ⟨w.heap.size + 1 + 1, 12, none⟩ = some (.bool false) := L2.cell 12 _ rfl
 have b13 : v.cell? ⟨w.heap.size + 1 + 1, 13, none⟩ = some (.slice none 0 0) := L2.cell 13 _ rfl
 have fr2 := L2.free
 go_upto_region 6 with (first | (go_at_call 135; refine (toCc_any _ _ _ _ _ _ _ _ _ _ _).mono ?_; rintro e w2 ⟨rfl, hb2⟩; have M0 := L0.next hb2; have M1 := L1.next hb2; have M2 := L2.next hb2; have ge2 := M2.free; have d3 : w2.cell? ⟨w.heap.size + 1 + 1, 3, none⟩ = some (.int .i64 0) := M2.cell 3 _ rfl; have d4 : w2.cell? ⟨w.heap.size + 1 + 1, 4, none⟩ = some (.int .i64 0) := M2.cell 4 _ rfl; have d5 : w2.cell? ⟨w.heap.size + 1 + 1, 5, none⟩ = some (.int .i64 0) := M2.cell 5 _ rfl; have d6 : w2.cell? ⟨w.heap.size + 1 + 1, 6, none⟩ = some (.int .i64 0) := M2.cell 6 _ rfl; have d7 : w2.cell? ⟨w.heap.size + 1 + 1, 7, none⟩ = some (.int .i64 0) := M2.cell 7 _ rfl; have d8 : w2.cell? ⟨w.heap.size + 1 + 1, 8, none⟩ = some (.int .i64 0) := M2.cell 8 _ rfl; have d9 : w2.cell? ⟨w.heap.size + 1 + 1, 9, none⟩ = some (.int .i64 0) := M2.cell 9 _ rfl; have d10 : w2.cell? ⟨w.heap.size + 1 + 1, 10, none⟩ = some (.int .i64 0) := M2.cell 10 _ rfl; have d11 : w2.cell? ⟨w.heap.size + 1 + 1, 11, none⟩ = some (.int .i64 0) := M2.cell 11 _ rfl; have d12 : w2.cell? ⟨w.heap.size + 1 + 1, 12, none⟩ = some (.bool false) := M2.cell 12 _ rfl; have d13 : w2.cell? ⟨w.heap.size + 1 + 1, 13, none⟩ = some (.slice none 0 0) := M2.cell 13 _ rfl))
 obtain ⟨x, hx⟩ : ∃ x, x = w2.setCells (w.heap.size + 1 + 1) 3 [.int .i64 c.k, .int .i64 c.wn, .int .i64 c.th, .int .i64 c.fl, .int .i64 c.ac, .int .i64 c.la, .int .i64 c.og, .int .i64 c.st, .int .i64 c.fr, .bool c.sl] := ⟨_, rfl⟩
 have hx' : ((((((((((w2.setCell ⟨w.heap.size + 1 + 1, 3, none⟩ (.int .i64 c.k)).setCell ⟨w.heap.size + 1 + 1, 4, none⟩ (.int .i64 c.wn)).setCell ⟨w.heap.size + 1 + 1, 5, none⟩ (.int .i64 c.th)).setCell ⟨w.heap.size + 1 + 1, 6, none⟩ (.int .i64 c.fl)).setCell ⟨w.heap.size + 1 + 1, 7, none⟩ (.int .i64 c.ac)).setCell ⟨w.heap.size + 1 + 1, 8, none⟩ (.int .i64 c.la)).setCell ⟨w.heap.size + 1 + 1, 9, none⟩ (.int .i64 c.og)).setCell ⟨w.heap.size + 1 + 1, 10, none⟩ (.int .i64 c.st)).setCell ⟨w.heap.size + 1 + 1, 11, none⟩ (.int .i64 c.fr)).setCell ⟨w.heap.size + 1 + 1, 12, none⟩ (.bool c.sl)) = x := hx.symm
 rw [hx']
 clear hx'
 have oX : Only (w.heap.size + 1 + 1) w2 x := by rw [hx]; exact onlyCells _ _ _
 have N0 := M0.only oX (by omega)
 have N1 := M1.only oX (by omega)
 have N2 : Lay x (w.heap.size + 1 + 1) [.int .i64 c.id, .int .i64 c.lf, .int .i64 c.pl, .int .i64 c.k, .int .i64 c.wn, .int .i64 c.th, .int .i64 c.fl, .int .i64 c.ac, .int .i64 c.la, .int .i64 c.og, .int .i64 c.st, .int .i64 c.fr, .bool c.sl, .slice none 0 0] := by rw [hx]; exact M2.put (p := [.int .i64 c.id, .int .i64 c.lf, .int .i64 c.pl]) (q := [.int .i64 0, .int .i64 0, .int .i64 0, .int .i64 0, .int .i64 0, .int .i64 0, .int .i64 0, .int .i64 0, .int .i64 0, .bool false]) (r := [.slice none 0 0]) [.int .i64 c.k, .int .i64 c.wn, .int .i64 c.th, .int .i64 c.fl, .int .i64 c.ac, .int .i64 c.la, .int .i64 c.og, .int .i64 c.st, .int .i64 c.fr, .bool c.sl] rfl
 have bX : Below w.heap.size w x := (below_two bV hb2).trans (oX.below (by omega) (by have := (below_two bV hb2).size; omega))
 clear hx d3 d4 d5 d6 d7 d8 d9 d10 d11 d12 d13
 have m13 : x.cell? ⟨w.heap.size, 13, none⟩ = some (.slice a c.xs.length cap) := N0.cell 13 _ rfl
 have n13 : x.cell? ⟨w.heap.size + 1 + 1, 13, none⟩ = some (.slice none 0 0) := N2.cell 13 _ rfl
 have frx := N2.free
 go_upto_region 7 with (first | (go_at_call 134; refine (toInt64S_any cap (h.here bX) hn).mono ?_; rintro e w3 ⟨g, rfl, hg0, hg1, fg, hb3⟩; have P1 := N1.next hb3; have P2 := N2.next hb3; have zx := bX.size; have ge3 := P2.free; have k13 : w3.cell? ⟨w.heap.size + 1 + 1, 13, none⟩ = some (.slice none 0 0) := P2.cell 13 _ rfl))
 obtain ⟨y, hy⟩ : ∃ y, y = w3.setCells (w.heap.size + 1 + 1) 13 [.slice (some ⟨g, 0, none⟩) c.xs.length c.xs.length] := ⟨_, rfl⟩
 have hy' : w3.setCell ⟨w.heap.size + 1 + 1, 13, none⟩ (.slice (some ⟨g, 0, none⟩) c.xs.length c.xs.length) = y := hy.symm
 rw [hy']
 clear hy'
 have oY : Only (w.heap.size + 1 + 1) w3 y := by rw [hy]; exact onlyCells _ _ _
 have Q1 := P1.only oY (by omega)
 have Q2 : Lay y (w.heap.size + 1 + 1) [.int .i64 c.id, .int .i64 c.lf, .int .i64 c.pl, .int .i64 c.k, .int .i64 c.wn, .int .i64 c.th, .int .i64 c.fl, .int .i64 c.ac, .int .i64 c.la, .int .i64 c.og, .int .i64 c.st, .int .i64 c.fr, .bool c.sl, .slice (some ⟨g, 0, none⟩) c.xs.length c.xs.length] := by rw [hy]; exact P2.put (p := [.int .i64 c.id, .int .i64 c.lf, .int .i64 c.pl, .int .i64 c.k, .int .i64 c.wn, .int .i64 c.th, .int .i64 c.fl, .int .i64 c.ac, .int .i64 c.la, .int .i64 c.og, .int .i64 c.st, .int .i64 c.fr, .bool c.sl]) (q := [.slice none 0 0]) (r := []) [.slice (some ⟨g, 0, none⟩) c.xs.length c.xs.length] rfl
 have bY : Below w.heap.size w y := (below_two bX hb3).trans (oY.below (by omega) (by have := (below_two bX hb3).size; omega))
 have lt2 := N2.lt
 have fY : IFill y g c.xs.length c.xs c.xs.length := fg.only oY hg1 (by omega)
 clear hy m13 n13
 obtain ⟨r0, r1, r2, r3, r4, r5, r6, r7, r8, r9, r10, r11, r12, r13⟩ := Lay.c14 (b := w.heap.size + 1 + 1) Q2
 obtain ⟨t0, t1, t2, t3, t4, t5, t6, t7, t8, t9, t10, t11, t12, t13⟩ := Lay.c14 (b := w.heap.size + 1) Q1
 have fry := Q1.free
 go_wp2
 obtain ⟨z, hz⟩ : ∃ z, z = y.setCells (w.heap.size + 1) 0 [.int .i64 c.id, .int .i64 c.lf, .int .i64 c.pl, .int .i64 c.k, .int .i64 c.wn, .int .i64 c.th, .int .i64 c.fl, .int .i64 c.ac, .int .i64 c.la, .int .i64 c.og, .int .i64 c.st, .int .i64 c.fr, .bool c.sl, .slice (some ⟨g, 0, none⟩) c.xs.length c.xs.length] := ⟨_, rfl⟩
 have hz' : ((((((((((((((y.setCell ⟨w.heap.size + 1, 0, none⟩ (.int .i64 c.id)).setCell ⟨w.heap.size + 1, 1, none⟩ (.int .i64 c.lf)).setCell ⟨w.heap.size + 1, 2, none⟩ (.int .i64 c.pl)).setCell ⟨w.heap.size + 1, 3, none⟩ (.int .i64 c.k)).setCell ⟨w.heap.size + 1, 4, none⟩ (.int .i64 c.wn)).setCell ⟨w.heap.size + 1, 5, none⟩ (.int .i64 c.th)).setCell ⟨w.heap.size + 1, 6, none⟩ (.int .i64 c.fl)).setCell ⟨w.heap.size + 1, 7, none⟩ (.int .i64 c.ac)).setCell ⟨w.heap.size + 1, 8, none⟩ (.int .i64 c.la)).setCell ⟨w.heap.size + 1, 9, none⟩ (.int .i64 c.og)).setCell ⟨w.heap.size + 1, 10, none⟩ (.int .i64 c.st)).setCell ⟨w.heap.size + 1, 11, none⟩ (.int .i64 c.fr)).setCell ⟨w.heap.size + 1, 12, none⟩ (.bool c.sl)).setCell ⟨w.heap.size + 1, 13, none⟩ (.slice (some ⟨g, 0, none⟩) c.xs.length c.xs.length)) = z := hz.symm
 rw [hz']
 clear hz'
 have oZ : Only (w.heap.size + 1) y z := by rw [hz]; exact onlyCells _ _ _
 have R1 : Lay z (w.heap.size + 1) [.int .i64 c.id, .int .i64 c.lf, .int .i64 c.pl, .int .i64 c.k, .int .i64 c.wn, .int .i64 c.th, .int .i64 c.fl, .int .i64 c.ac, .int .i64 c.la, .int .i64 c.og, .int .i64 c.st, .int .i64 c.fr, .bool c.sl, .slice (some ⟨g, 0, none⟩) c.xs.length c.xs.length] := by rw [hz]; exact Q1.put (p := []) (q := [.int .i64 0, .int .i64 0, .int .i64 0, .int .i64 0, .int .i64 0, .int .i64 0, .int .i64 0, .int .i64 0, .int .i64 0, .int .i64 0, .int .i64 0, .int .i64 0, .bool false, .slice none 0 0]) (r := []) [.int .i64 c.id, .int .i64 c.lf, .int .i64 c.pl, .int .i64 c.k, .int .i64 c.wn, .int .i64 c.th, .int .i64 c.fl, .int .i64 c.ac, .int .i64 c.la, .int .i64 c.og, .int .i64 c.st, .int .i64 c.fr, .bool c.sl, .slice (some ⟨g, 0, none⟩) c.xs.length c.xs.length] rfl
 have zy := oY.size
 have zz := oZ.size
 refine bodyPost_ret (results_one rfl _ _ _ [.int .i64 c.id, .int .i64 c.lf, .int .i64 c.pl, .int .i64 c.k, .int .i64 c.wn, .int .i64 c.th, .int .i64 c.fl, .int .i64 c.ac, .int .i64 c.la, .int .i64 c.og, .int .i64 c.st, .int .i64 c.fr, .bool c.sl, .slice (some ⟨g, 0, none⟩) c.xs.length c.xs.length] rfl R1.cell Tryz.underlying66 rfl (by kernel_rfl)) rfl ?_
 exact ⟨g, rfl, by omega, by omega, fY.only oZ (by omega) (by omega), bY.trans (oZ.below (by omega) bY.size)⟩
theorem info_conn : (Tryz.prog.info? 66).map (fun i => (i.zero, i.size, i.bytes)) = some (some (.agg #[.int .i64 0, .int .i64 0, .int .i64 0, .int .i64 0, .int .i64 0, .int .i64 0, .int .i64 0, .int .i64 0, .int .i64 0, .int .i64 0, .int .i64 0, .int .i64 0, .bool false, .slice none 0 0]), 14, 128) := by kernel_rfl
theorem made_conn (v : Value) (n j : Nat) (h : j < n * 14) : ∃ z, (madeCells v.cells (n * 14)).toList[j]? = some z := by
 rw [Array.getElem?_toList]
 unfold madeCells
 rw [Array.getElem?_map, Array.getElem?_eq_getElem (by simpa using h)]
 exact ⟨_, rfl⟩
set_option maxHeartbeats 4000000 in
theorem toConnS_any {w : World} {a : Option Addr} (cap : Nat) {ks : List Kn} (h : Kls w.heap.size w a ks) (hn : ks.length ≤ 1048576) (hs : ∀ c ∈ ks, c.xs.length ≤ 1048576) :
   Calls Tryz.prog 34 #[.slice a ks.length cap] w fun e w' => ∃ g vs, e = .returned (.slice (some ⟨g, 0, none⟩) ks.length ks.length) ∧ KO w' w.heap.size w'.heap.size g ks.length vs ks ∧ Below w.heap.size w w' := by
 obtain ⟨i0, hi, hz0, hz1, hz2⟩ := info_parts info_conn
 go_enter Tryz.func34, Tryz.ntmps34
 go_wp2_with (first
   | (at_make; refine wpList_make_full _ rfl _ _ 36 rfl w.heap.size 66 i0 _ 14 Tryz.underlying36 hi hz0 hz1 _ _ _ _ ks.length rfl rfl rfl rfl (by rw [hz2]; omega) (by unfold maxLen; omega) (Nat.le_refl _) ?_; intro w1 own1 gr1))
 have hb1 : Below w.heap.size w w1 := (Below.refl _ _).grown gr1 (Nat.le_refl _) (fun k hk => by cases hk)
 have hg1 : w.heap.size < w1.heap.size := (own1.lt _ rfl).2
 have f1 : KO w1 w.heap.size w1.heap.size w.heap.size ks.length [] (ks.take 0) := ⟨Nat.le_refl _, hg1, Nat.le_refl _, by simp, by simp, fun j hj => ⟨by
   have hc := own1.cellAt j hj
   rw [hc]
   exact made_conn _ _ j hj, own1.frozenAt j⟩, (fun i hi => by simp at hi), (fun i hi => by simp at hi), (fun i hi => by cases hi), (fun i j hi => by cases hi)⟩
 go_loopw [4] (fun i wr => ∃ (k : Nat) (vs : List Value), i = .int .i64 k ∧ k ≤ ks.length ∧ KO wr w.heap.size wr.heap.size w.heap.size ks.length vs (ks.take k) ∧ Below w.heap.size w wr) (fun i _ => ks.length - (intOf i).toNat)
 case atStart => exact ⟨0, [], rfl, by omega, f1, hb1⟩
 case round =>
   obtain ⟨k, vs, rfl, hk, f, hb⟩ := hrel
   by_cases hlt : k < ks.length
   · obtain ⟨b, off, sa, sc, rfl, hbl, c0, c13, hsm⟩ := h.at hb k hlt
     have hlt' : (k : Int) < (ks.length : Int) := by omega
     have hsk := hs _ (List.getElem_mem hlt)
     have HT : Hid (ks.take (k + 1) = ks.take k ++ [ks[k]]) := List.take_succ_eq_append_getElem hlt
     obtain ⟨c, hx⟩ : ∃ c, ks[k] = c := ⟨_, rfl⟩
     rw [hx] at c0 c13 hsm hsk HT
     clear hx
     have d0 : wr.cell? ⟨b, off + k * 14, none⟩ = some (.int .i64 c.id) := c0 0 _ rfl
     have d1 : wr.cell? ⟨b, off + k * 14 + 1, none⟩ = some (.int .i64 c.lf) := c0 1 _ rfl
     have d2 : wr.cell? ⟨b, off + k * 14 + 2, none⟩ = some (.int .i64 c.pl) := c0 2 _ rfl
     have d3 : wr.cell? ⟨b, off + k * 14 + 3, none⟩ = some (.int .i64 c.k) := c0 3 _ rfl
     have d4 : wr.cell? ⟨b, off + k * 14 + 4, none⟩ = some (.int .i64 c.wn) := c0 4 _ rfl
     have d5 : wr.cell? ⟨b, off + k * 14 + 5, none⟩ = some (.int .i64 c.th) := c0 5 _ rfl
     have d6 : wr.cell? ⟨b, off + k * 14 + 6, none⟩ = some (.int .i64 c.fl) := c0 6 _ rfl
     have d7 : wr.cell? ⟨b, off + k * 14 + 7, none⟩ = some (.int .i64 c.ac) := c0 7 _ rfl
     have d8 : wr.cell? ⟨b, off + k * 14 + 8, none⟩ = some (.int .i64 c.la) := c0 8 _ rfl
     have d9 : wr.cell? ⟨b, off + k * 14 + 9, none⟩ = some (.int .i64 c.og) := c0 9 _ rfl
     have d10 : wr.cell? ⟨b, off + k * 14 + 10, none⟩ = some (.int .i64 c.st) := c0 10 _ rfl
     have d11 : wr.cell? ⟨b, off + k * 14 + 11, none⟩ = some (.int .i64 c.fr) := c0 11 _ rfl
     have d12 : wr.cell? ⟨b, off + k * 14 + 12, none⟩ = some (.bool c.sl) := c0 12 _ rfl
     clear c0
     have hzb := hb.size
     have hg := f.g1
     have hlen : (ks.take k).length = k := by rw [List.length_take]; omega
     go_wp2_with (first
       | (go_at_call 75; refine (toConn_any sc c (hsm.up hzb) hsk).mono ?_; rintro e w2 ⟨g2, rfl, hg20, hg21, f2, hb2⟩; have F : Hid (KO w2 w.heap.size wr.heap.size w.heap.size ks.length vs (ks.take k)) := f.next hb2; obtain ⟨⟨y0, e0⟩, u0⟩ := F.out.any (k * 14) (by omega); obtain ⟨⟨y1, e1⟩, u1⟩ := F.out.any (k * 14 + 1) (by omega); obtain ⟨⟨y2, e2⟩, u2⟩ := F.out.any (k * 14 + 2) (by omega); obtain ⟨⟨y3, e3⟩, u3⟩ := F.out.any (k * 14 + 3) (by omega); obtain ⟨⟨y4, e4⟩, u4⟩ := F.out.any (k * 14 + 4) (by omega); obtain ⟨⟨y5, e5⟩, u5⟩ := F.out.any (k * 14 + 5) (by omega); obtain ⟨⟨y6, e6⟩, u6⟩ := F.out.any (k * 14 + 6) (by omega); obtain ⟨⟨y7, e7⟩, u7⟩ := F.out.any (k * 14 + 7) (by omega); obtain ⟨⟨y8, e8⟩, u8⟩ := F.out.any (k * 14 + 8) (by omega); obtain ⟨⟨y9, e9⟩, u9⟩ := F.out.any (k * 14 + 9) (by omega); obtain ⟨⟨y10, e10⟩, u10⟩ := F.out.any (k * 14 + 10) (by omega); obtain ⟨⟨y11, e11⟩, u11⟩ := F.out.any (k * 14 + 11) (by omega); obtain ⟨⟨y12, e12⟩, u12⟩ := F.out.any (k * 14 + 12) (by omega); obtain ⟨⟨y13, e13⟩, u13⟩ := F.out.any (k * 14 + 13) (by omega)))
     have hio : IO w2 w.heap.size w2.heap.size (.slice (some ⟨g2, 0, none⟩) c.xs.length c.xs.length) c.xs := IV.io (.inl ⟨g2, _, rfl, by omega, hg21, f2, Nat.le_refl _⟩)
     have hp := F.out.push (k := k) hlen.symm hlt c hio (fun b e => by have := el_at e; omega)
     rw [← HT.out] at hp
     have hz2 := hb2.size
     have hp' : KO (w2.setCells w.heap.size (k * 14) (c.cs ++ [.slice (some ⟨g2, 0, none⟩) c.xs.length c.xs.length])) w.heap.size (w2.setCells w.heap.size (k * 14) (c.cs ++ [.slice (some ⟨g2, 0, none⟩) c.xs.length c.xs.length])).heap.size w.heap.size ks.length (vs ++ [.slice (some ⟨g2, 0, none⟩) c.xs.length c.xs.length]) (ks.take (k + 1)) := by rw [sizeCells]; exact hp
     have hbz : Below w.heap.size w (w2.setCells w.heap.size (k * 14) (c.cs ++ [.slice (some ⟨g2, 0, none⟩) c.xs.length c.xs.length])) := (below_step hb hb2).trans ((onlyCells _ _ _).below (Nat.le_refl _) (by omega))
     exact ⟨⟨k + 1, _, by go_num, by omega, hp', hbz⟩, by simp [intOf]; omega⟩
   · have e : k = ks.length := by omega
     subst e
     rw [List.take_length] at f
     go_wp2
     go_ret
     exact ⟨_, _, rfl, f, hb⟩
end Go.Proofs.YtkohlmloobojfaaGreat
