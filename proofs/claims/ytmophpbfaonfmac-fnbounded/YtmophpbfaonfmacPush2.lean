/- append([]byte{x, y}, code...): a new row of some bytes more. -/
import Derived.Test.YtmophpbfaonfmacPush
namespace Go.Proofs.Ytmophpbfaonfmac
open Go.ChangeShapes Go.WideShapes Go.ChangeAt Go.RowKit
set_option maxRecDepth 100000
set_option linter.unusedVariables false

theorem ones_owned (w : World) {B : Nat} (hB : B ≤ w.heap.size) (x : Value) : (w.alloc (.cells #[x] 5)).ownsRow B 5 1 (.slice (some ⟨w.heap.size, 0, none⟩) 1 1) [x].length [x] :=
  ⟨rfl, .inr ⟨w.heap.size, 1, _, rfl, hB, heap_alloc_new w _, Nat.le_refl _, by unfold maxLen; omega, rfl, rfl⟩⟩
theorem twos_owned (w : World) {B : Nat} (hB : B ≤ w.heap.size) (x y : Value) : (w.alloc (.cells #[x, y] 5)).ownsRow B 5 1 (.slice (some ⟨w.heap.size, 0, none⟩) 2 2) [x, y].length [x, y] :=
  ⟨rfl, .inr ⟨w.heap.size, 2, _, rfl, hB, heap_alloc_new w _, Nat.le_refl _, by unfold maxLen; omega, rfl, rfl⟩⟩
theorem byte_of {i : Int} (h0 : 0 ≤ i) (h1 : i ≤ 255) : IntKind.u8.wrap i = i := by rw [IntKind.wrap_u8]; omega
theorem wpList_pushL {w : World} {ops : Array Oper} {rest : List Oper} {o : Oper} {a : Act} {Q : Exit → Act → World → Prop} (bs : List Value) (hb0 : 0 < bs.length) (hbl : bs.length ≤ 4) (hbs : ∀ u ∈ bs, ∃ z : Int, u = .int .u8 z ∧ 0 ≤ z ∧ z ≤ 255) (hgd : o.guard = none) (s x : Operand)
    (ho : o.op = .call { callee := .builtin .append, args := #[s, x], argTypes := #[22, 22] })
    {B : Nat} {a0 : Option Addr} {len cap : Nat} {v : Value} (hs : a.eval s = v) (hx : a.eval x = .slice a0 len cap) (hown : w.ownsRow B 5 1 v bs.length bs) (row : Row B a0 len w)
    (hnil : a0 = none → len = 0 ∧ cap = 0) (hlen : len ≤ 4096) (hB : B ≤ w.heap.size)
    (h : ∀ a1 c w', Row w'.heap.size a1 (bs.length + len) w' → Below B w w' → wpList Try.prog ops Q rest (a.put o.dst (.slice a1 ((bs.length + len : Nat)) c)) w') : wpList Try.prog ops Q (o :: rest) a w := by
  obtain ⟨i0, hi, hz0, hz1, hz2⟩ := info_parts info_u8
  cases a0 with
  | none =>
    obtain ⟨rfl, rfl⟩ := hnil rfl
    refine wpList_append_own_none hgd s x 22 ho B 5 i0 1 Try.underlying22 hi v bs.length _ hs hown hx ?_
    obtain ⟨g, c, rfl, hr⟩ := row_owned hown hb0 hbs
    exact h _ c w hr (Below.refl _ _)
  | some ad =>
    obtain ⟨news, hl, hn, hu⟩ : ∃ news : List Value, news.length = len ∧ (∀ j u, news[j]? = some u → w.cell? (ad.add j) = some u) ∧ ∀ u ∈ news, ∃ z : Int, u = .int .u8 z ∧ 0 ≤ z ∧ z ≤ 255 := by
      by_cases h0 : len = 0
      · subst h0; exact ⟨[], rfl, fun j u h => by simp at h, fun u h => by cases h⟩
      · obtain ⟨xb, xo, z, e, _⟩ := row 0 (by omega)
        cases e
        exact row_list row
    refine wpList_append_own w hgd s x 22 ho B 5 i0 (.int .u8 0) 1 1 Try.underlying22 hi hz0 hz1 hz2 rfl (by decide) v bs.length _ hs hown ad len cap news hx (by rw [hl, Nat.mul_one]) hn
      (fun u hu' => by obtain ⟨z, rfl, _⟩ := hu u hu'; rfl) (by unfold maxLen; omega) (by omega) hB ?_
    intro v' w' ho' hg' _
    obtain ⟨g, c, rfl, hr⟩ := row_owned ho' (by omega) (fun u hm => by
      rcases List.mem_append.1 hm with hm | hm
      · exact hbs u hm
      · exact hu u hm)
    exact h _ c w' hr ((Below.refl _ _).grown hg' hB fun k hk => (hown.lt k hk).1)
end Go.Proofs.Ytmophpbfaonfmac
