/- What the law FnFiltered carries: a filter in a variable, and a list of samples beside it. -/
import Derived.Test.YtmophpbfaonfmabDraw3d
import Derived.Test.YtmophpbfaonfmabFilMath
import Derived.Test.YtmophpbfaonfmabLikeF
import Derived.Test.YtmophpbfaonfmabPushBoth
import Derived.Test.YtmophpbfaonfmabBuck
import Derived.Test.YtmophpbfaonfmabKept
namespace Go.Proofs.Ytmophpbfaonfmab
open Go.ChangeShapes Go.WideShapes Go.ChangeAt Go.RowKit
set_option maxRecDepth 100000
set_option linter.unusedVariables false
set_option linter.unusedSimpArgs false

structure LS (w5 wr : World) (v : Value) (a : Option Addr) (n c : Nat) (hs L : List (Int × Int)) : Prop where
  hc : wr.cell? ⟨w5.heap.size, 0, none⟩ = some (.slice a n c)
  fr : ∀ o : Nat, wr.frozen? ⟨w5.heap.size, o, none⟩ = false
  fv : FV wr (w5.heap.size + 1) (.slice a n c) hs
  own : wr.ownsRow (w5.heap.size + 1) 37 2 v L.length (flat L)
  bel : Below w5.heap.size w5 wr
  lt : w5.heap.size < wr.heap.size
theorem LS.next {w5 wr w2 : World} {v : Value} {a : Option Addr} {n c : Nat} {hs L : List (Int × Int)} (d : LS w5 wr v a n c hs L) (h : Below wr.heap.size wr w2) : LS w5 w2 v a n c hs L :=
  ⟨(h.cell (by exact d.lt)).trans d.hc, fun o => (h.frozen (by exact d.lt)).trans (d.fr o), d.fv.next h, own_only d.own (Only.of_below (b := w5.heap.size) h) (by omega), below_two d.bel h, Nat.lt_of_lt_of_le d.lt h.size⟩
theorem LS.put {w5 wr : World} {v : Value} {a : Option Addr} {n c : Nat} {hs L : List (Int × Int)} (d : LS w5 wr v a n c hs L) {a' : Option Addr} {n' c' : Nat} {zs : List (Int × Int)} (f : FV wr (w5.heap.size + 1) (.slice a' n' c') zs) : LS w5 (wr.setCell ⟨w5.heap.size, 0, none⟩ (.slice a' n' c')) v a' n' c' zs L := by
  have o : Only w5.heap.size wr (wr.setCell ⟨w5.heap.size, 0, none⟩ (.slice a' n' c')) := only_set3 _ _ _ _
  exact ⟨set_same _ d.hc, fun o => by simpa using d.fr o, f.onlyO (OnlyO.of_only o) (fun g hg e => by have := (f.own hg).1; injection e with e; omega), own_only d.own o (by omega), d.bel.setCell (p := ⟨w5.heap.size, 0, none⟩) (Nat.le_refl _) _, by simpa using d.lt⟩
theorem LS.app {w5 wr w' : World} {v v' : Value} {a : Option Addr} {n c : Nat} {hs L L' : List (Int × Int)} (d : LS w5 wr v a n c hs L) {O : Obj} (hg : (wr.alloc O).grownBy w' v.ownBlock) (hne : ∀ g, (Value.slice a n c).ownBlock = some g → v.ownBlock ≠ some g) (own : w'.ownsRow (w5.heap.size + 1) 37 2 v' L'.length (flat L')) : LS w5 w' v' a n c hs L' := by
  have d1 := d.next (new_below wr O)
  have o := OnlyO.of_grown hg
  have hv : v.ownBlock ≠ some w5.heap.size := fun e => by have := (d.own.lt _ e).1; omega
  exact ⟨(o.cell (by exact d1.lt) (by exact hv)).trans d1.hc, fun i => (o.frozen (by exact d1.lt) (by exact hv)).trans (d1.fr i), d1.fv.onlyO o hne, own, d1.bel.trans (o.below (fun g e => by have := (d.own.lt g e).1; omega) (Nat.le_of_lt d1.lt)), Nat.lt_of_lt_of_le d1.lt o.size⟩
theorem ls_new (w5 : World) (t u : TypeId) : LS w5 ((w5.alloc (.cells #[.slice none 0 0] t)).alloc (.cells #[] 37)) (.slice (some ⟨w5.heap.size + 1, 0, none⟩) 0 0) none 0 0 [] [] := by
  have h0 := own_empty (w5.alloc (.cells #[.slice none 0 0] t)) 37
  have e : (w5.alloc (.cells #[.slice none 0 0] t)).heap.size = w5.heap.size + 1 := by simp
  rw [e] at h0
  exact ⟨by go_simp, fun o => by go_simp, .inr ⟨rfl, rfl⟩, h0, by go_grown, by simp; omega⟩
theorem smp_small {t v : Int} (h : 0 ≤ t ∧ t ≤ 200) (k : 0 ≤ v ∧ v < 50) : smpB (t, v) = true := by
  unfold smpB timeB rateB
  simp only [Bool.and_eq_true, decide_eq_true_eq]
  omega
theorem fv_cap {w : World} {lo : Nat} {a : Option Addr} {n c : Nat} {ys : List (Int × Int)} (h : FV w lo (.slice a n c) ys) : ys.length ≤ c ∧ (a = none → c = 0) := by
  rcases h with ⟨g, cap, e, h1, h2, f, hc⟩ | ⟨e, rfl⟩
  · injection e with e1 e2 e3
    subst e1 e2 e3
    exact ⟨hc, fun e => by cases e⟩
  · injection e with e1 e2 e3
    subst e1 e2 e3
    exact ⟨by simp, fun _ => rfl⟩
theorem yes_fv {w : World} {ys : List (Int × Int)} {e : Ending} {w' : World} (h : YesPost w ys e w') : ∃ g cap, e = .returned (.tuple #[.agg #[.slice (some ⟨g, 0, none⟩) ys.length cap], .bool true]) ∧ w.heap.size ≤ g ∧ FV w' w.heap.size (.slice (some ⟨g, 0, none⟩) ys.length cap) ys ∧ Below w.heap.size w w' := by
  obtain ⟨g, cap, rfl, h1, h2, h3, h4, h5⟩ := h
  exact ⟨g, cap, rfl, h1, .inl ⟨g, cap, rfl, h1, h2, h3, h4⟩, h5⟩
theorem fold_next {most : Bool} {s r : Int} {L : List (Int × Int)} {k : Nat} (hk : k < L.length) {v : Int} (h : (L.take k).foldl (bestF most s) v = r) : (L.take (k + 1)).foldl (bestF most s) v = bestF most s r L[k] := by
  rw [List.take_succ_eq_append_getElem hk, List.foldl_append, h]
  rfl
end Go.Proofs.Ytmophpbfaonfmab
