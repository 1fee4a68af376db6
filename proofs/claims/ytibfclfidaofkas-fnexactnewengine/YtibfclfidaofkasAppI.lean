/- A list of numbers behind a row of numbers: append, also where a guard stands ahead of it and holds. -/
import Derived.Test.YtibfclfidaofkasGrpC
import Derived.Laws.AppendOwnNone
namespace Go.Proofs.Ytibfclfidaofkas
open Go.ChangeShapes Go.WideShapes Go.ChangeAt Go.RowKit
set_option maxRecDepth 100000
set_option linter.unusedVariables false

theorem add_at (g j : Nat) : (⟨g, 0, none⟩ : Addr).add j = ⟨g, j, none⟩ := by unfold Addr.add; split <;> simp_all
theorem wpList_append_ints {P : Program} {w : World} {ops : Array Oper} {rest : List Oper} {o : Oper} {a : Act} {Q : Exit → Act → World → Prop} (hw : Region.wanted o (yielded ops a.tmps) = true) (s x : Operand) (t : TypeId)
    (ho : o.op = .call { callee := .builtin .append, args := #[s, x], argTypes := #[t, t] })
    (base : Nat) (e : TypeId) (i : TypeInfo) (z : Value) (ht : P.underlying t = some (.slice e)) (hi : P.info? e = some i) (hz : i.zero = some z) (hsize : i.size = 1) (hby : i.bytes = 8) (hzs : z.cells.size = 1)
    (v : Value) (n : Nat) (xs : List Value) (hs : a.eval s = v) (hown : w.ownsRow base e 1 v n xs) (u : Value) (lo : Nat) (ys : List Int) (hx : a.eval x = u) (hu : IV w lo u ys) (hn : n + ys.length ≤ 1000000) (hbase : base ≤ w.heap.size)
    (h : ∀ v' w', w'.ownsRow base e 1 v' (n + ys.length) (xs ++ flatI ys) → w.grownBy w' v.ownBlock → wpList P ops Q rest (a.put o.dst v') w') : wpList P ops Q (o :: rest) a w := by
  refine wpList_step fun K hK => ?_
  rw [if_pos hw]
  rcases hu with ⟨g, cap, rfl, h1, h2, f, hc⟩ | ⟨rfl, rfl⟩
  · refine wp_append_own w s x t ho base e i z 1 8 ht hi hz hsize hby hzs (by decide) v n xs hs hown ⟨g, 0, none⟩ ys.length cap (flatI ys) hx (by rw [flatI_length, Nat.mul_one]) (fun j y hy => ?_) (flatI_one ys) (by unfold maxLen; omega) (by omega) hbase (fun v' w' k1 k2 _ => hK _ _ (h v' w' k1 k2))
    unfold flatI at hy
    rw [List.getElem?_map] at hy
    have hj : j < ys.length := by
      rcases Nat.lt_or_ge j ys.length with k | k
      · exact k
      · rw [List.getElem?_eq_none k] at hy
        cases hy
    rw [List.getElem?_eq_getElem hj] at hy
    have e1 : Value.int .i64 ys[j] = y := by simpa using hy
    rw [add_at, ← e1]
    exact f.got j hj hj
  · have hrun := run_append_owned_none (P := P) (w := w) base t o.type e i 1 ht hi v n xs hown
    have k := h v w (by simpa [flatI] using hown) ⟨rfl, rfl, rfl, Nat.le_refl _, fun _ _ _ => rfl⟩
    unfold Oper.wp
    simp [execOp, ho, resolve, invoke, builtin, hs, hx, hrun, Result.andThen]
    exact hK _ _ k
end Go.Proofs.Ytibfclfidaofkas
