/- What impl.NewLend and impl.Retree answer. -/
import Derived.Test.YtmophpbfaonfmacGrpU
import Derived.Test.YtmophpbfaonfmacImplLendOk
import Derived.Test.YtmophpbfaonfmacGrpL
namespace Go.Proofs.Ytmophpbfaonfmac
open Go.ChangeShapes Go.WideShapes Go.ChangeAt Go.RowKit
set_option maxRecDepth 100000
set_option linter.unusedVariables false
set_option linter.unusedSimpArgs false

theorem OnlyP.cell {p : Nat → Prop} {w w' : World} (h : OnlyP p w w') {a : Addr} (ha : a.block < w.heap.size) (hp : ¬ p a.block) : w'.cell? a = w.cell? a := World.cell?_of_block (w := w) (h.block a.block ha hp)
theorem OnlyP.frozen {p : Nat → Prop} {w w' : World} (h : OnlyP p w w') {a : Addr} (ha : a.block < w.heap.size) (hp : ¬ p a.block) : w'.frozen? a = w.frozen? a := World.frozen?_of_block (w := w) (h.block a.block ha hp)
theorem Cells.onlyP {w w' : World} {p : Nat → Prop} (ho : OnlyP p w w') : ∀ {cs : List (Nat × Nat × Value)}, (∀ c ∈ cs, ¬ p c.1) → Cells w cs → Cells w' cs
  | [], _, _ => trivial
  | (b, o', v) :: r, hg, ⟨⟨h1, h2⟩, h⟩ => ⟨⟨Nat.lt_of_lt_of_le h1 ho.size, (ho.cell h1 (hg (b, o', v) (List.mem_cons_self ..))).trans h2⟩, Cells.onlyP ho (fun c hc => hg c (List.mem_cons_of_mem _ hc)) h⟩
/-- Work that is done: what it wrote stays, the flag's block is new. -/
theorem att_on {K : Nat} {caps : Array Value} (w : World) (hent : ∀ args w, (callFunc K args).run Try.prog w = .ok (.enter K args) w) {p : Nat → Prop} {R : World → Prop} (hp : ¬ p w.heap.size) (hR : ∀ W v, R W → R (W.setCell ⟨w.heap.size, 0, none⟩ v))
    (hk : Calls Try.prog K caps (w.alloc (.cells #[.bool false] 4)) fun e W => e = .returned (.tuple #[]) ∧ R W ∧ OnlyP p (w.alloc (.cells #[.bool false] 4)) W) :
    Calls Try.prog 95 #[.func (.func K) #[] caps] w fun e w' => e = .returned (.bool true) ∧ R w' ∧ OnlyP p w w' := by
  refine (attempt_yes w hent (R := fun W => R W ∧ OnlyP p (w.alloc (.cells #[.bool false] 4)) W) (hk.mono fun e W h => ⟨h.1, h.2, (h.2.2.cell (a := ⟨w.heap.size, 0, none⟩) (by simp) hp).trans (by go_simp), (h.2.2.frozen (a := ⟨w.heap.size, 0, none⟩) (by simp) hp).trans (by go_simp)⟩)).mono ?_
  rintro e w' ⟨rfl, W, ⟨hW, ho⟩, rfl⟩
  refine ⟨rfl, hR _ _ (hR _ _ hW), ?_⟩
  have h1 : OnlyP p w (w.alloc (.cells #[.bool false] 4)) := OnlyP.of_below (new_below _ _)
  have h2 : OnlyP p w W := (h1.trans ho).weak (fun k hk => hk.elim id id)
  refine ⟨h2.os, h2.tape, h2.output, by simpa using h2.size, fun k hk hn => ?_⟩
  rw [Below.heap_setCell _ _ _ _ (by simp only; omega), Below.heap_setCell _ _ _ _ (by simp only; omega)]
  exact h2.block k hk hn
theorem LV.set {w : World} {lo : Nat} {sT sO sP : Value} {T O P : List Q4} (h : LV w lo sT sO sP T O P) {b : Nat} (hb : b < lo) (i : Nat) (v : Value) : LV (w.setCell ⟨b, i, none⟩ v) lo sT sO sP T O P := by
  have hg := OnlyP.of (OnlyO.of_grown (grown_set w b i v))
  have hn : ∀ {k : Nat}, inL sT sO sP k → ¬ (some b = some k) := fun hk e => by have := (h.lo hk).1; have e1 := Option.some.inj e; omega
  exact h.onlyP hg (fun g hg => hn (.inl hg)) (fun g hg => hn (.inr (.inl hg))) (fun g hg => hn (.inr (.inr hg)))
/-- A Lend lies in the variable bl, its rows beyond lo. -/
def InVar (bl lo : Nat) (T O P : List Q4) (W : World) : Prop := ∃ a1 n1 c1 a2 n2 c2 a3 n3 c3, Cells W [(bl, 0, .slice a1 n1 c1), (bl, 1, .slice a2 n2 c2), (bl, 2, .slice a3 n3 c3)] ∧ LV W lo (.slice a1 n1 c1) (.slice a2 n2 c2) (.slice a3 n3 c3) T O P
theorem InVar.set {bl lo : Nat} {T O P : List Q4} {W : World} (h : InVar bl lo T O P W) {b : Nat} (hb : b < lo) (hn : b ≠ bl) (v : Value) : InVar bl lo T O P (W.setCell ⟨b, 0, none⟩ v) := by
  obtain ⟨a1, n1, c1, a2, n2, c2, a3, n3, c3, hc, hl⟩ := h
  refine ⟨a1, n1, c1, a2, n2, c2, a3, n3, c3, Cells.onlyO (OnlyO.of_grown (grown_set W b 0 v)) (fun c hc e => ?_) hc, hl.set hb _ _⟩
  have e1 : b = c.1 := Option.some.inj e
  simp only [List.mem_cons, List.not_mem_nil, or_false] at hc
  rcases hc with rfl | rfl | rfl <;> exact hn e1
/-- A Lend stored over a variable. -/
theorem var_put {W W2 : World} {bl : Nat} {a1 : Option Addr} {n1 c1 : Nat} {a2 : Option Addr} {n2 c2 : Nat} {a3 : Option Addr} {n3 c3 : Nat} {T O P : List Q4} (hl : LV W2 W.heap.size (.slice a1 n1 c1) (.slice a2 n2 c2) (.slice a3 n3 c3) T O P) (hb : Below W.heap.size W W2) (hbl : bl < W.heap.size)
    {u0 u1 u2 : Value} (h0 : W2.cell? ⟨bl, 0, none⟩ = some u0) (h1 : W2.cell? ⟨bl, 1, none⟩ = some u1) (h2 : W2.cell? ⟨bl, 2, none⟩ = some u2) :
    InVar bl W.heap.size T O P (((W2.setCell ⟨bl, 0, none⟩ (.slice a1 n1 c1)).setCell ⟨bl, 1, none⟩ (.slice a2 n2 c2)).setCell ⟨bl, 2, none⟩ (.slice a3 n3 c3)) ∧ OnlyP (fun k => k = bl) W (((W2.setCell ⟨bl, 0, none⟩ (.slice a1 n1 c1)).setCell ⟨bl, 1, none⟩ (.slice a2 n2 c2)).setCell ⟨bl, 2, none⟩ (.slice a3 n3 c3)) := by
  have hs := hb.size
  have hz : bl < W2.heap.size := by omega
  have hc := set_three (.slice a1 n1 c1) (.slice a2 n2 c2) (.slice a3 n3 c3) h0 h1 h2
  refine ⟨⟨a1, n1, c1, a2, n2, c2, a3, n3, c3, ⟨⟨by simpa using hz, hc 0 _ rfl⟩, ⟨by simpa using hz, hc 1 _ rfl⟩, ⟨by simpa using hz, hc 2 _ rfl⟩, trivial⟩, ((hl.set hbl _ _).set hbl _ _).set hbl _ _⟩, hb.os, hb.tape, hb.output, by simpa using hs, fun k hk hn => ?_⟩
  rw [Below.heap_setCell _ _ _ _ (by simp only; omega), Below.heap_setCell _ _ _ _ (by simp only; omega), Below.heap_setCell _ _ _ _ (by simp only; omega)]
  exact hb.block k hk
/-- The answer's place is stored over by what lies in a variable. -/
theorem var_out {w w4 W : World} {br bl : Nat} {a1 : Option Addr} {n1 c1 : Nat} {a2 : Option Addr} {n2 c2 : Nat} {a3 : Option Addr} {n3 c3 : Nat} {T O P : List Q4} (hl : LV W w4.heap.size (.slice a1 n1 c1) (.slice a2 n2 c2) (.slice a3 n3 c3) T O P) (h4 : Below w.heap.size w w4) (ho : OnlyP (fun k => k = bl) w4 W) (hbl : w.heap.size ≤ bl) (hbr : w.heap.size ≤ br) (hbr2 : br < w4.heap.size) :
    LV (((W.setCell ⟨br, 0, none⟩ (.slice a1 n1 c1)).setCell ⟨br, 1, none⟩ (.slice a2 n2 c2)).setCell ⟨br, 2, none⟩ (.slice a3 n3 c3)) w.heap.size (.slice a1 n1 c1) (.slice a2 n2 c2) (.slice a3 n3 c3) T O P ∧ Below w.heap.size w (((W.setCell ⟨br, 0, none⟩ (.slice a1 n1 c1)).setCell ⟨br, 1, none⟩ (.slice a2 n2 c2)).setCell ⟨br, 2, none⟩ (.slice a3 n3 c3)) := by
  have hb : Below w.heap.size w W := h4.trans (ho.below (fun k e => by omega) h4.size)
  exact ⟨(((hl.set hbr2 _ _).set hbr2 _ _).set hbr2 _ _).lower h4.size, ((hb.setCell (by simp only; omega) _).setCell (by simp only; omega) _).setCell (by simp only; omega) _⟩
section
end
end Go.Proofs.Ytmophpbfaonfmac
