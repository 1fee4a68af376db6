/- A Cc in a variable of a law's own, carried through calls. -/
import Derived.Test.YtmophpbfaonfmaeCcBoth
namespace Go.Proofs.Ytmophpbfaonfmae
open Go.ChangeShapes Go.WideShapes Go.ChangeAt Go.RowKit
set_option maxRecDepth 100000
set_option linter.unusedVariables false
set_option linter.unusedSimpArgs false

/-- Block g holds these ten. -/
structure TenV (w : World) (g : Nat) (v0 v1 v2 v3 v4 v5 v6 v7 v8 v9 : Value) : Prop where
  c0 : w.cell? ⟨g, 0, none⟩ = some v0
  c1 : w.cell? ⟨g, 1, none⟩ = some v1
  c2 : w.cell? ⟨g, 2, none⟩ = some v2
  c3 : w.cell? ⟨g, 3, none⟩ = some v3
  c4 : w.cell? ⟨g, 4, none⟩ = some v4
  c5 : w.cell? ⟨g, 5, none⟩ = some v5
  c6 : w.cell? ⟨g, 6, none⟩ = some v6
  c7 : w.cell? ⟨g, 7, none⟩ = some v7
  c8 : w.cell? ⟨g, 8, none⟩ = some v8
  c9 : w.cell? ⟨g, 9, none⟩ = some v9
  lt : g < w.heap.size
theorem TenV.next {w w' : World} {g : Nat} {v0 v1 v2 v3 v4 v5 v6 v7 v8 v9 : Value} (h : TenV w g v0 v1 v2 v3 v4 v5 v6 v7 v8 v9) (b : Below w.heap.size w w') : TenV w' g v0 v1 v2 v3 v4 v5 v6 v7 v8 v9 :=
  ⟨(b.cell (p := ⟨g, 0, none⟩) h.lt).trans h.c0, (b.cell (p := ⟨g, 1, none⟩) h.lt).trans h.c1, (b.cell (p := ⟨g, 2, none⟩) h.lt).trans h.c2, (b.cell (p := ⟨g, 3, none⟩) h.lt).trans h.c3, (b.cell (p := ⟨g, 4, none⟩) h.lt).trans h.c4, (b.cell (p := ⟨g, 5, none⟩) h.lt).trans h.c5, (b.cell (p := ⟨g, 6, none⟩) h.lt).trans h.c6, (b.cell (p := ⟨g, 7, none⟩) h.lt).trans h.c7, (b.cell (p := ⟨g, 8, none⟩) h.lt).trans h.c8, (b.cell (p := ⟨g, 9, none⟩) h.lt).trans h.c9, Nat.lt_of_lt_of_le h.lt b.size⟩
theorem lay10 (w : World) (v0 v1 v2 v3 v4 v5 v6 v7 v8 v9 : Value) (T : TypeId) : ∃ v B, v = w.alloc (.cells #[v0, v1, v2, v3, v4, v5, v6, v7, v8, v9] T) ∧ B = w.heap.size ∧ TenV v B v0 v1 v2 v3 v4 v5 v6 v7 v8 v9 ∧ Below w.heap.size w v := by
  refine ⟨_, _, rfl, rfl, ⟨by go_simp, by go_simp, by go_simp, by go_simp, by go_simp, by go_simp, by go_simp, by go_simp, by go_simp, by go_simp, by simp⟩, (Below.refl _ _).alloc (Nat.le_refl _) _⟩
theorem specSent_f {k wn th fl ac la og st fr n : Int} (sl : Bool) (w : World) (h : sentB k wn th fl ac la og st fr n = false) : Calls Try.prog 25 #[.agg #[.int .i64 k, .int .i64 wn, .int .i64 th, .int .i64 fl, .int .i64 ac, .int .i64 la, .int .i64 og, .int .i64 st, .int .i64 fr, .bool sl], .int .i64 n] w fun e w' => e = .returned (.tuple #[.agg #[.int .i64 0, .int .i64 0, .int .i64 0, .int .i64 0, .int .i64 0, .int .i64 0, .int .i64 0, .int .i64 0, .int .i64 0, .bool false], .bool false]) ∧ Below w.heap.size w w' := by
  have e := specSent_any k wn th fl ac la og st fr sl n w
  rwa [h, show sentC k wn th fl ac la og st fr sl n = zeroC from if_neg (by rw [h]; decide)] at e
theorem specSent_t {k wn th fl ac la og st fr n : Int} (sl : Bool) (w : World) (h : sentB k wn th fl ac la og st fr n = true) : Calls Try.prog 25 #[.agg #[.int .i64 k, .int .i64 wn, .int .i64 th, .int .i64 fl, .int .i64 ac, .int .i64 la, .int .i64 og, .int .i64 st, .int .i64 fr, .bool sl], .int .i64 n] w fun e w' => e = .returned (.tuple #[.agg #[.int .i64 k, .int .i64 wn, .int .i64 th, .int .i64 (fl + n), .int .i64 ac, .int .i64 la, .int .i64 og, .int .i64 st, .int .i64 fr, .bool sl], .bool true]) ∧ Below w.heap.size w w' := by
  have e := specSent_any k wn th fl ac la og st fr sl n w
  rwa [h, show sentC k wn th fl ac la og st fr sl n = ⟨k, wn, th, fl + n, ac, la, og, st, fr, sl⟩ from if_pos h] at e
theorem implSent_f {k wn th fl ac la og st fr n : Int} (sl : Bool) (w : World) (h : sentB k wn th fl ac la og st fr n = false) : Calls Try.prog 24 #[.agg #[.int .i64 k, .int .i64 wn, .int .i64 th, .int .i64 fl, .int .i64 ac, .int .i64 la, .int .i64 og, .int .i64 st, .int .i64 fr, .bool sl], .int .i64 n] w fun e w' => e = .returned (.tuple #[.agg #[.int .i64 0, .int .i64 0, .int .i64 0, .int .i64 0, .int .i64 0, .int .i64 0, .int .i64 0, .int .i64 0, .int .i64 0, .bool false], .bool false]) ∧ Below w.heap.size w w' := by
  have e := implSent_any k wn th fl ac la og st fr sl n w
  rwa [h, show sentC k wn th fl ac la og st fr sl n = zeroC from if_neg (by rw [h]; decide)] at e
theorem implSent_t {k wn th fl ac la og st fr n : Int} (sl : Bool) (w : World) (h : sentB k wn th fl ac la og st fr n = true) : Calls Try.prog 24 #[.agg #[.int .i64 k, .int .i64 wn, .int .i64 th, .int .i64 fl, .int .i64 ac, .int .i64 la, .int .i64 og, .int .i64 st, .int .i64 fr, .bool sl], .int .i64 n] w fun e w' => e = .returned (.tuple #[.agg #[.int .i64 k, .int .i64 wn, .int .i64 th, .int .i64 (fl + n), .int .i64 ac, .int .i64 la, .int .i64 og, .int .i64 st, .int .i64 fr, .bool sl], .bool true]) ∧ Below w.heap.size w w' := by
  have e := implSent_any k wn th fl ac la og st fr sl n w
  rwa [h, show sentC k wn th fl ac la og st fr sl n = ⟨k, wn, th, fl + n, ac, la, og, st, fr, sl⟩ from if_pos h] at e
theorem sent_num {k wn th fl ac la og st fr n : Int} (h : sentB k wn th fl ac la og st fr n = true) : ccB k wn th fl ac la og st fr = true ∧ s10B n = true ∧ fl + n ≤ wn := by
  unfold sentB at h
  rw [Bool.and_eq_true, Bool.and_eq_true, decide_eq_true_eq] at h
  exact ⟨h.1.1, h.1.2, h.2⟩
theorem sent_ok {k wn th fl ac la og st fr n : Int} (h : sentB k wn th fl ac la og st fr n = true) : ccB k wn th (fl + n) ac la og st fr = true := by
  obtain ⟨h1, h2, h3⟩ := sent_num h
  have hn := cc_num h1
  have hs := seg_num h2
  unfold ccB at h1 ⊢
  simp only [Bool.and_eq_true] at h1 ⊢
  refine ⟨⟨⟨⟨⟨⟨⟨⟨h1.1.1.1.1.1.1.1.1, h1.1.1.1.1.1.1.1.2⟩, h1.1.1.1.1.1.1.2⟩, ?_⟩, h1.1.1.1.1.2⟩, h1.1.1.1.2⟩, h1.1.1.2⟩, h1.1.2⟩, h1.2⟩
  unfold w10B
  rw [decide_eq_true (by omega), decide_eq_true (by omega)]
  rfl
theorem new_ok {k : Int} (h : kindB k = true) : ccB k 15000 1000000000 0 0 0 0 0 0 = true := by
  unfold ccB
  rw [h]
  decide
end Go.Proofs.Ytmophpbfaonfmae
