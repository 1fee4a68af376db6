/- Lemmas on the way, of several texts: FlwOpen. -/
import Derived.Test.YtkohlmloobojfaaGreatGrpAH
import Derived.Deep.Strs
namespace Go.Proofs.YtkohlmloobojfaaGreat
open Go.ChangeShapes Go.WideShapes Go.ChangeAt Go.RowKit
set_option maxRecDepth 100000
set_option linter.unusedVariables false
theorem pick_list {α : Type} {P : Nat → α → Prop} : ∀ {n : Nat}, (∀ i, i < n → ∃ x, P i x) → ∃ xs : List α, xs.length = n ∧ ∀ i (h : i < xs.length), P i xs[i]
  | 0, _ => ⟨[], rfl, fun i h => by cases h⟩
  | n + 1, h => by
    obtain ⟨xs, hl, hx⟩ := pick_list (n := n) (fun i hi => h i (by omega))
    obtain ⟨x, hp⟩ := h n (by omega)
    refine ⟨xs ++ [x], by simp [hl], fun i hi => ?_⟩
    by_cases e : i < xs.length
    · rw [List.getElem_append_left e]
      exact hx i e
    · have e2 : i = xs.length := by simp at hi; omega
      subst e2
      rw [List.getElem_append_right (by omega)]
      simp only [Nat.sub_self, List.getElem_cons_zero]
      rw [hl]
      exact hp
section
variable {H : Type} {enc : TypeId × Value → H} {P : Program} {w : World} {sp : Nat → Bool} {held : Bool}
theorem open_numbers {t i : TypeId} (ht : P.underlying t = some (.slice i)) (hi : P.underlying i = some (.int .i64)) (ci : P.cellsOf i = 1) {fuel : Nat} {v : Value} {x : DataW H × List MemPlace}
    (h : DataW.trod enc P w 0 sp held fuel t [v] = some x) : ∃ (a : Option Addr) (cap : Nat) (xs : List Int), v = .slice a xs.length cap ∧ ISmp w.heap.size w a xs ∧ xs.length ≤ maxLen := by
  rcases DataW.trod_slice ht h with ⟨e1, _⟩ | ⟨a, len, cap, elems, rest, n, _, e1, _, _, hl, hm, hlen, hel, _, _⟩
  · obtain rfl : v = .slice none 0 0 := by simpa using e1
    exact ⟨none, 0, [], rfl, ismp_nil _ _ _, (by unfold maxLen; simp)⟩
  · obtain rfl : v = .slice (some a) len cap := by simpa using e1
    have one : ∀ j, j < len → ∃ p : Int, w.cell? (a.add j) = some (.int .i64 p) := by
      intro j hj
      obtain ⟨y, hy⟩ : ∃ y, elems[j]? = some y := ⟨_, List.getElem?_eq_getElem (by omega)⟩
      have hb := hel j hj
      rw [hy, ci, Nat.mul_one, Option.bind_eq_some_iff] at hb
      obtain ⟨cs, hc, htr⟩ := hb
      obtain ⟨p, e, _⟩ := DataW.trod_int hi htr
      obtain ⟨_, _, hcell⟩ := World.cells?_some hc
      subst e
      exact ⟨p, by simpa [Addr.add] using hcell 0 (by simp)⟩
    obtain ⟨xs, hx1, hx2⟩ := pick_list one
    refine ⟨some a, cap, xs, by rw [hx1], fun i hi' => ?_, by omega⟩
    have c := hx2 i hi'
    have hspot : a.spot = none := by
      obtain ⟨_, c0'⟩ := one 0 (by omega)
      simpa [Addr.add] using World.cell?_spot c0'
    obtain ⟨b, off, spot⟩ := a
    simp only at hspot
    subst hspot
    have e2 : ((⟨b, off, none⟩ : Addr).add i) = ⟨b, off + i, none⟩ := by unfold Addr.add; split <;> simp_all
    rw [e2] at c
    exact ⟨b, off, rfl, World.block_lt_of_cell? w _ c, c⟩
theorem open_flows {t e i s : TypeId} {f0 f1 f2 : Field} (ht : P.underlying t = some (.slice e)) (he : P.underlying e = some (.struct #[f0, f1, f2])) (hi : P.underlying i = some (.int .i64)) (hs : P.underlying s = some (.slice i)) (t0 : f0.type = i) (t1 : f1.type = i) (t2 : f2.type = s)
   (o0 : f0.offset = 0) (o1 : f1.offset = 1) (o2 : f2.offset = 2) (ci : P.cellsOf i = 1) (cs' : P.cellsOf s = 1) (ce : P.cellsOf e = 3) {fuel : Nat} {v : Value} {x : DataW H × List MemPlace}
   (h : DataW.trod enc P w 0 sp held fuel t [v] = some x) :
   ∃ (a : Option Addr) (cap : Nat) (fs : List F8), v = .slice a fs.length cap ∧ Fls w.heap.size w a fs ∧ fs.length ≤ maxLen ∧ ∀ f ∈ fs, f.2.2.length ≤ maxLen := by
 rcases DataW.trod_slice ht h with ⟨e1, _⟩ | ⟨a, len, cap, elems, rest, n, _, e1, _, _, hl, hm, hlen, hel, _, _⟩
 · obtain rfl : v = .slice none 0 0 := by simpa using e1
   exact ⟨none, 0, [], rfl, Fls.nil _ _ _, (by unfold maxLen; simp), fun f hf => by cases hf⟩
 · obtain rfl : v = .slice (some a) len cap := by simpa using e1
   have one : ∀ j, j < len → ∃ f : F8, (∃ sa sc, w.cell? (a.add (j * 3)) = some (.int .i64 f.1) ∧ w.cell? ((a.add (j * 3)).add 1) = some (.int .i64 f.2.1) ∧ w.cell? ((a.add (j * 3)).add 2) = some (.slice sa f.2.2.length sc) ∧ ISmp w.heap.size w sa f.2.2) ∧ f.2.2.length ≤ maxLen := by
     intro j hj
     obtain ⟨y, hy⟩ : ∃ y, elems[j]? = some y := ⟨_, List.getElem?_eq_getElem (by omega)⟩
     have hb := hel j hj
     rw [hy, ce, Option.bind_eq_some_iff] at hb
     obtain ⟨cs, hc, htr⟩ := hb
     obtain ⟨y0, y1, y2, m, _, hl3, h0, h1, h2⟩ := Go.Deep.trod_struct3 he htr
     rw [ce] at hl3
     obtain ⟨_, _, hcell⟩ := World.cells?_some hc
     match cs, hl3 with
     | [u0, u1, u2], _ =>
       rw [o0, t0, ci] at h0
       rw [o1, t1, ci] at h1
       rw [o2, t2, cs'] at h2
       obtain ⟨p, e0, _⟩ := DataW.trod_int hi h0
       obtain ⟨q, e1, _⟩ := DataW.trod_int hi h1
       simp only [List.drop_zero, List.take_succ_cons, List.take_zero, List.drop_succ_cons, List.cons.injEq, and_true] at e0 e1
       have h2' : DataW.trod enc P w 0 sp held m s [u2] = some y2 := h2
       obtain ⟨sa, sc, xs, e2, k1, k2⟩ := open_numbers hs hi ci h2'
       subst e0 e1 e2
       exact ⟨(p, q, xs), ⟨sa, sc, by simpa [Addr.add] using hcell 0 (by simp), by simpa using hcell 1 (by simp), by simpa using hcell 2 (by simp), k1⟩, k2⟩
   obtain ⟨fs, hx1, hx2⟩ := pick_list one
   refine ⟨some a, cap, fs, by rw [hx1], fun i hi' => ?_, by omega, fun f hf => ?_⟩
   · obtain ⟨⟨sa, sc, c0, c1, c2, hsm⟩, _⟩ := hx2 i hi'
     have hspot : a.spot = none := by
       obtain ⟨_, ⟨_, _, c0', _⟩, _⟩ := one 0 (by omega)
       simpa [Addr.add] using World.cell?_spot c0'
     obtain ⟨b, off, spot⟩ := a
     simp only at hspot
     subst hspot
     have e2 : ((⟨b, off, none⟩ : Addr).add (i * 3)) = ⟨b, off + i * 3, none⟩ := by unfold Addr.add; split <;> simp_all
     have e3 : ((⟨b, off + i * 3, none⟩ : Addr).add 1) = ⟨b, off + i * 3 + 1, none⟩ := by simp [Addr.add]
     have e4 : ((⟨b, off + i * 3, none⟩ : Addr).add 2) = ⟨b, off + i * 3 + 2, none⟩ := by simp [Addr.add]
     rw [e2] at c0 c1 c2
     rw [e3] at c1
     rw [e4] at c2
     exact ⟨b, off, sa, sc, rfl, World.block_lt_of_cell? w _ c0, c0, c1, c2, hsm⟩
   · obtain ⟨i, hi', rfl⟩ := List.mem_iff_getElem.1 hf
     exact (hx2 i hi').2
end
end Go.Proofs.YtkohlmloobojfaaGreat
