/- Work that is done, by what it wrote. -/
import Derived.Test.YtmophpbfaonfmacImplRec
import Derived.Test.YtmophpbfaonfmacGrpL
import Derived.Test.YtmophpbfaonfmacGrpM
namespace Go.Proofs.Ytmophpbfaonfmac
open Go.ChangeShapes Go.WideShapes Go.ChangeAt Go.RowKit
set_option maxRecDepth 100000
set_option linter.unusedVariables false
set_option linter.unusedSimpArgs false

theorem OnlyP.cellA {p : Nat → Prop} {w w' : World} (h : OnlyP p w w') {a : Addr} (ha : a.block < w.heap.size) (hp : ¬ p a.block) : w'.cell? a = w.cell? a := World.cell?_of_block (w := w) (h.block a.block ha hp)
theorem OnlyP.frozenA {p : Nat → Prop} {w w' : World} (h : OnlyP p w w') {a : Addr} (ha : a.block < w.heap.size) (hp : ¬ p a.block) : w'.frozen? a = w.frozen? a := World.frozen?_of_block (w := w) (h.block a.block ha hp)
theorem Cells.onlyPA {w w' : World} {p : Nat → Prop} (ho : OnlyP p w w') : ∀ {cs : List (Nat × Nat × Value)}, (∀ c ∈ cs, ¬ p c.1) → Cells w cs → Cells w' cs
  | [], _, _ => trivial
  | (b, o', v) :: r, hg, ⟨⟨h1, h2⟩, h⟩ => ⟨⟨Nat.lt_of_lt_of_le h1 ho.size, (ho.cellA h1 (hg (b, o', v) (List.mem_cons_self ..))).trans h2⟩, Cells.onlyPA ho (fun c hc => hg c (List.mem_cons_of_mem _ hc)) h⟩
/-- Work that is done: what it wrote stays, the flag's block is new. -/
theorem att_onA {K : Nat} {caps : Array Value} (w : World) (hent : ∀ args w, (callFunc K args).run Try.prog w = .ok (.enter K args) w) {p : Nat → Prop} {R : World → Prop} (hp : ¬ p w.heap.size) (hR : ∀ W v, R W → R (W.setCell ⟨w.heap.size, 0, none⟩ v))
    (hk : Calls Try.prog K caps (w.alloc (.cells #[.bool false] 4)) fun e W => e = .returned (.tuple #[]) ∧ R W ∧ OnlyP p (w.alloc (.cells #[.bool false] 4)) W) :
    Calls Try.prog 95 #[.func (.func K) #[] caps] w fun e w' => e = .returned (.bool true) ∧ R w' ∧ OnlyP p w w' := by
  refine (attempt_yes w hent (R := fun W => R W ∧ OnlyP p (w.alloc (.cells #[.bool false] 4)) W) (hk.mono fun e W h => ⟨h.1, h.2, (h.2.2.cellA (a := ⟨w.heap.size, 0, none⟩) (by simp) hp).trans (by go_simp), (h.2.2.frozenA (a := ⟨w.heap.size, 0, none⟩) (by simp) hp).trans (by go_simp)⟩)).mono ?_
  rintro e w' ⟨rfl, W, ⟨hW, ho⟩, rfl⟩
  refine ⟨rfl, hR _ _ (hR _ _ hW), ?_⟩
  have h1 : OnlyP p w (w.alloc (.cells #[.bool false] 4)) := OnlyP.of_below (new_below _ _)
  have h2 : OnlyP p w W := (h1.trans ho).weak (fun k hk => hk.elim id id)
  refine ⟨h2.os, h2.tape, h2.output, by simpa using h2.size, fun k hk hn => ?_⟩
  rw [Below.heap_setCell _ _ _ _ (by simp only; omega), Below.heap_setCell _ _ _ _ (by simp only; omega)]
  exact h2.block k hk hn
theorem cls_good' {T : List Q4} (htr : IsTree T) : ∀ k (h : k < T.length), rateB T[k].2.1 = true ∧ rateB T[k].2.2.1 = true ∧ winB T[k].2.2.2 = true := fun k h => by
  have hk := htr.sound.cls k h
  unfold clsB at hk
  simp only [Bool.and_eq_true] at hk
  refine ⟨hk.1.1.1.1, hk.1.1.1.2, ?_⟩
  have hu := hk.2
  unfold burB at hu
  unfold winB
  rw [Bool.and_eq_true] at hu ⊢
  have := of_decide_eq_true hu.1
  exact ⟨decide_eq_true (by omega), hu.2⟩
end Go.Proofs.Ytmophpbfaonfmac
