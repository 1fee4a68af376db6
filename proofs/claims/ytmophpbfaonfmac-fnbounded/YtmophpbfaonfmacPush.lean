/- append([]byte{1}, code...): a new row of one byte more, which lies above all that was there. -/
import Derived.Test.YtmophpbfaonfmacGrpC
import Derived.Laws.AppendOwn
import Derived.Laws.AppendOwnNone
import Derived.OwnWalk
namespace Go.Proofs.Ytmophpbfaonfmac
open Go.ChangeShapes Go.WideShapes Go.ChangeAt Go.RowKit
set_option maxRecDepth 100000
set_option linter.unusedVariables false

theorem info_u8 : (Try.prog.info? 5).map (fun i => (i.zero, i.size, i.bytes)) = some (some (.int .u8 0), 1, 1) := by kernel_rfl
theorem add_off (xb xo j : Nat) : (⟨xb, xo, none⟩ : Addr).add j = ⟨xb, xo + j, none⟩ := by
  by_cases h : j = 0
  · subst h; rfl
  · simp [Addr.add, h]
theorem Row.up {B B' : Nat} {a0 : Option Addr} {len : Nat} {w : World} (r : Row B a0 len w) (h : B ≤ B') : Row B' a0 len w := fun i hi => by
  obtain ⟨xb, xo, z, e, hx, hc⟩ := r i hi
  exact ⟨xb, xo, z, e, Nat.lt_of_lt_of_le hx h, hc⟩
/-- A row's cells as a list. -/
theorem row_list {B xb xo len : Nat} {w : World} (row : Row B (some ⟨xb, xo, none⟩) len w) : ∃ news : List Value, news.length = len ∧ (∀ j u, news[j]? = some u → w.cell? ((⟨xb, xo, none⟩ : Addr).add j) = some u) ∧ ∀ u ∈ news, ∃ z : Int, u = .int .u8 z ∧ 0 ≤ z ∧ z ≤ 255 := by
  refine ⟨(List.range len).map fun i => (w.cell? ⟨xb, xo + i, none⟩).getD (.int .u8 0), by simp, ?_, ?_⟩
  · intro j u h
    rw [List.getElem?_map] at h
    by_cases hj : j < len
    · obtain ⟨yb, yo, z, e, _, hc, _, _⟩ := row j hj
      obtain ⟨rfl, rfl⟩ : xb = yb ∧ xo = yo := by simpa using e
      rw [List.getElem?_range hj] at h
      rw [add_off, hc]
      simp only [Option.map_some, hc, Option.getD_some] at h
      exact h
    · rw [List.getElem?_eq_none (by simp; omega)] at h; cases h
  · intro u h
    obtain ⟨i, hi, rfl⟩ := List.mem_map.1 h
    obtain ⟨yb, yo, z, e, _, hc, z0, z1⟩ := row i (List.mem_range.1 hi)
    obtain ⟨rfl, rfl⟩ : xb = yb ∧ xo = yo := by simpa using e
    exact ⟨z, by rw [hc]; rfl, z0, z1⟩
/-- What is owned, all bytes, is a row. -/
theorem row_owned {B n : Nat} {w : World} {v : Value} {xs : List Value} (h : w.ownsRow B 5 1 v n xs) (hn : 0 < n) (hx : ∀ u ∈ xs, ∃ z : Int, u = .int .u8 z ∧ 0 ≤ z ∧ z ≤ 255) :
    ∃ g c, v = .slice (some ⟨g, 0, none⟩) n c ∧ Row w.heap.size (some ⟨g, 0, none⟩) n w := by
  have hl := h.1
  rcases h.2 with ⟨_, h0⟩ | ⟨g, c, cur, rfl, _, hg, _⟩
  · omega
  · refine ⟨g, c, rfl, fun i hi => ?_⟩
    have hi' : i < xs.length := by omega
    obtain ⟨z, e, z0, z1⟩ := hx _ (List.getElem_mem hi')
    have hc := h.cells (g := g) rfl i xs[i] (List.getElem?_eq_getElem hi')
    rw [add_off, e] at hc
    exact ⟨g, 0, z, rfl, World.block_lt_of_cell? w _ hc, hc, z0, z1⟩
theorem wpList_push {w : World} {ops : Array Oper} {rest : List Oper} {o : Oper} {a : Act} {Q : Exit → Act → World → Prop} (hgd : o.guard = none) (s x : Operand)
    (ho : o.op = .call { callee := .builtin .append, args := #[s, x], argTypes := #[22, 22] })
    {B : Nat} {a0 : Option Addr} {len cap : Nat} {v : Value} (hs : a.eval s = v) (hx : a.eval x = .slice a0 len cap) (hown : w.ownsRow B 5 1 v 1 [.int .u8 1]) (row : Row B a0 len w)
    (hnil : a0 = none → len = 0 ∧ cap = 0) (hlen : len ≤ 4096) (hB : B ≤ w.heap.size)
    (h : ∀ a1 c w', Row w'.heap.size a1 (1 + len) w' → Below B w w' → wpList Try.prog ops Q rest (a.put o.dst (.slice a1 ((1 + len : Nat)) c)) w') : wpList Try.prog ops Q (o :: rest) a w := by
  obtain ⟨i0, hi, hz0, hz1, hz2⟩ := info_parts info_u8
  cases a0 with
  | none =>
    obtain ⟨rfl, rfl⟩ := hnil rfl
    refine wpList_append_own_none hgd s x 22 ho B 5 i0 1 Try.underlying22 hi v 1 _ hs hown hx ?_
    obtain ⟨g, c, rfl, hr⟩ := row_owned hown (by omega) (fun u hu => by rw [List.mem_singleton.1 hu]; exact ⟨1, rfl, by omega, by omega⟩)
    exact h _ c w hr (Below.refl _ _)
  | some ad =>
    obtain ⟨news, hl, hn, hu⟩ : ∃ news : List Value, news.length = len ∧ (∀ j u, news[j]? = some u → w.cell? (ad.add j) = some u) ∧ ∀ u ∈ news, ∃ z : Int, u = .int .u8 z ∧ 0 ≤ z ∧ z ≤ 255 := by
      by_cases h0 : len = 0
      · subst h0; exact ⟨[], rfl, fun j u h => by simp at h, fun u h => by cases h⟩
      · obtain ⟨xb, xo, z, e, _⟩ := row 0 (by omega)
        cases e
        exact row_list row
    refine wpList_append_own w hgd s x 22 ho B 5 i0 (.int .u8 0) 1 1 Try.underlying22 hi hz0 hz1 hz2 rfl (by decide) v 1 _ hs hown ad len cap news hx (by rw [hl, Nat.mul_one]) hn
      (fun u hu' => by obtain ⟨z, rfl, _⟩ := hu u hu'; rfl) (by unfold maxLen; omega) (by omega) hB ?_
    intro v' w' ho' hg' _
    obtain ⟨g, c, rfl, hr⟩ := row_owned ho' (by omega) (fun u hm => by
      rcases List.mem_append.1 hm with hm | hm
      · rw [List.mem_singleton.1 hm]; exact ⟨1, rfl, by omega, by omega⟩
      · exact hu u hm)
    exact h _ c w' hr ((Below.refl _ _).grown hg' hB fun k hk => (hown.lt k hk).1)
end Go.Proofs.Ytmophpbfaonfmac
