/- A slice of structs of two numbers that came in as an argument: its pairs lie in memory. -/
import Derived.Test.YtoeiheccmpjclarSmp
namespace Go.Proofs.Ytoeiheccmpjclar
open Go.ChangeShapes Go.WideShapes Go.ChangeAt Go.RowKit
set_option maxRecDepth 100000
set_option linter.unusedVariables false

section
variable {H : Type} {enc : TypeId × Value → H} {P : Program} {w : World} {sp : Nat → Bool} {held : Bool}

/-- Two numbers. -/
theorem open_pair2 {e : TypeId} {f0 f1 : Field} (he : P.underlying e = some (.struct #[f0, f1])) (h0 : P.underlying f0.type = some (.int .i64)) (h1 : P.underlying f1.type = some (.int .i64))
    (o0 : f0.offset = 0) (o1 : f1.offset = 1) (c0 : P.cellsOf f0.type = 1) (c1 : P.cellsOf f1.type = 1) (ce : P.cellsOf e = 2) {fuel : Nat} {cs : List Value} {x : DataW H × List MemPlace}
    (h : DataW.trod enc P w 0 sp held fuel e cs = some x) : ∃ p q : Int, cs = [.int .i64 p, .int .i64 q] ∧ I64 p ∧ I64 q := by
  obtain ⟨y0, y1, n, _, hl, t0, t1⟩ := trod_struct2 he h
  rw [ce] at hl
  match cs, hl with
  | [u, v], _ =>
    rw [o0, c0] at t0
    rw [o1, c1] at t1
    obtain ⟨p, e0, _, w0⟩ := DataW.trod_int h0 t0
    obtain ⟨q, e1, _, w1⟩ := DataW.trod_int h1 t1
    simp only [List.drop_zero, List.take_succ_cons, List.take_zero, List.drop_succ_cons, List.cons.injEq, and_true] at e0 e1
    exact ⟨p, q, by rw [e0, e1], bounds_i64 w0, bounds_i64 w1⟩
def intVal (v : Option Value) : Int := match v with | some (.int _ n) => n | _ => 0
theorem open_pairs {t e : TypeId} {f0 f1 : Field} (ht : P.underlying t = some (.slice e)) (he : P.underlying e = some (.struct #[f0, f1])) (h0 : P.underlying f0.type = some (.int .i64)) (h1 : P.underlying f1.type = some (.int .i64))
    (o0 : f0.offset = 0) (o1 : f1.offset = 1) (c0 : P.cellsOf f0.type = 1) (c1 : P.cellsOf f1.type = 1) (ce : P.cellsOf e = 2) {fuel : Nat} {v : Value} {x : DataW H × List MemPlace}
    (h : DataW.trod enc P w 0 sp held fuel t [v] = some x) :
    ∃ (a : Option Addr) (cap : Nat) (xs : List (Int × Int)), v = .slice a xs.length cap ∧ Smp w.heap.size w a xs ∧ (∀ x ∈ xs, I64 x.1 ∧ I64 x.2) ∧ (a = none → xs = [] ∧ cap = 0) ∧ xs.length ≤ cap ∧ cap ≤ maxLen := by
  rcases DataW.trod_slice ht h with ⟨e1, _⟩ | ⟨a, len, cap, elems, rest, n, _, e1, _, _, hl, hm, hlen, hel, _, _⟩
  · obtain rfl : v = .slice none 0 0 := by simpa using e1
    exact ⟨none, 0, [], rfl, (fun i h => by cases h), (fun x h => by cases h), (fun _ => ⟨rfl, rfl⟩), Nat.le_refl _, (by unfold maxLen; omega)⟩
  · obtain rfl : v = .slice (some a) len cap := by simpa using e1
    have one : ∀ i, i < len → ∃ p q, w.cell? (a.add (i * 2)) = some (.int .i64 p) ∧ w.cell? ((a.add (i * 2)).add 1) = some (.int .i64 q) ∧ I64 p ∧ I64 q := by
      intro i hi
      obtain ⟨y, hy⟩ : ∃ y, elems[i]? = some y := ⟨_, List.getElem?_eq_getElem (by omega)⟩
      have hb := hel i hi
      rw [hy, ce, Option.bind_eq_some_iff] at hb
      obtain ⟨cs, hc, htr⟩ := hb
      obtain ⟨p, q, rfl, ip, iq⟩ := open_pair2 he h0 h1 o0 o1 c0 c1 ce htr
      obtain ⟨_, _, hcell⟩ := World.cells?_some hc
      exact ⟨p, q, by simpa [Addr.add] using hcell 0 (by omega), by simpa using hcell 1 (by omega), ip, iq⟩
    refine ⟨some a, cap, (List.range len).map fun i => (intVal (w.cell? (a.add (i * 2))), intVal (w.cell? ((a.add (i * 2)).add 1))), by simp, ?_, ?_, (fun h => by cases h), (by simpa using hl), hm⟩
    · intro i hi
      have hi' : i < len := by simpa using hi
      obtain ⟨p, q, cp, cq, _, _⟩ := one i hi'
      have hspot : a.spot = none := by
        obtain ⟨_, _, c0', _⟩ := one 0 (by omega)
        simpa [Addr.add] using World.cell?_spot c0'
      obtain ⟨b, off, spot⟩ := a
      simp only at hspot
      subst hspot
      have e2 : ((⟨b, off, none⟩ : Addr).add (i * 2)) = ⟨b, off + i * 2, none⟩ := by unfold Addr.add; split <;> simp_all
      have e3 : ((⟨b, off + i * 2, none⟩ : Addr).add 1) = ⟨b, off + i * 2 + 1, none⟩ := by simp [Addr.add]
      rw [e2] at cp cq
      rw [e3] at cq
      refine ⟨b, off, rfl, World.block_lt_of_cell? w _ cp, ?_, ?_⟩
      · simp only [List.getElem_map, List.getElem_range, e2, cp, intVal]
      · simp only [List.getElem_map, List.getElem_range, e2, e3, cq, intVal]
    · intro x hx
      obtain ⟨i, hi, rfl⟩ := List.mem_map.1 hx
      obtain ⟨p, q, cp, cq, ip, iq⟩ := one i (List.mem_range.1 hi)
      simp only [cp, cq, intVal]
      exact ⟨ip, iq⟩
end

theorem cells_i64 : Try.prog.cellsOf 2 = 1 := by kernel_rfl
end Go.Proofs.Ytoeiheccmpjclar
