/- Rows of flows and of numbers that a call makes: what can be read is cloned. -/
import Derived.Test.YtibfclfidaofkasGrpV
import Derived.Laws.AppendOwnNone
import Derived.Lib.SliceRun
namespace Go.Proofs.Ytibfclfidaofkas
open Go.ChangeShapes Go.WideShapes Go.ChangeAt Go.RowKit
set_option maxRecDepth 100000
set_option linter.unusedVariables false
set_option linter.unusedSimpArgs false

abbrev G8 := Int × Int × Value
def flatF (G : List G8) : List Value := G.flatMap fun x => [.int .i64 x.1, .int .i64 x.2.1, x.2.2]
theorem flatF_append (xs ys : List G8) : flatF (xs ++ ys) = flatF xs ++ flatF ys := List.flatMap_append
theorem flatF_length (xs : List G8) : (flatF xs).length = xs.length * 3 := by
  induction xs with
  | nil => rfl
  | cons x xs ih =>
    show (flatF xs).length + 1 + 1 + 1 = _
    rw [ih, List.length_cons]
    omega
theorem flatF_get (xs : List G8) : ∀ i (h : i < xs.length), (flatF xs)[i * 3]? = some (.int .i64 xs[i].1) ∧ (flatF xs)[i * 3 + 1]? = some (.int .i64 xs[i].2.1) ∧ (flatF xs)[i * 3 + 2]? = some xs[i].2.2 := by
  induction xs with
  | nil => intro i h; cases h
  | cons x xs ih =>
    intro i h
    cases i with
    | zero => exact ⟨rfl, rfl, rfl⟩
    | succ j =>
      have hj : j < xs.length := by simpa using h
      obtain ⟨h0, h1, h2⟩ := ih j hj
      have e : ∀ d, (flatF (x :: xs))[(j + 1) * 3 + d]? = (flatF xs)[j * 3 + d]? := by
        intro d
        show (Value.int .i64 x.1 :: Value.int .i64 x.2.1 :: x.2.2 :: flatF xs)[(j + 1) * 3 + d]? = _
        rw [show (j + 1) * 3 + d = j * 3 + d + 1 + 1 + 1 by omega]
        simp
      have e0 := e 0
      rw [Nat.add_zero, Nat.add_zero] at e0
      rw [e0, e 1, e 2]
      exact ⟨h0, h1, h2⟩
/-- The list of a flow that can be read. -/
def SzV (B : Nat) (w : World) (v : Value) (xs : List Int) : Prop := ∃ sa sc, v = .slice sa xs.length sc ∧ ISmp B w sa xs
theorem SzV.here {w x : World} {v : Value} {xs : List Int} (h : SzV w.heap.size w v xs) (hb : Below w.heap.size w x) : SzV x.heap.size x v xs := by
  obtain ⟨sa, sc, e, s⟩ := h
  exact ⟨sa, sc, e, s.here hb⟩
structure Vals (B : Nat) (w : World) (G : List G8) (fs : List F8) : Prop where
  len : G.length = fs.length
  at' : ∀ i (h : i < fs.length) (h' : i < G.length), G[i].1 = fs[i].1 ∧ G[i].2.1 = fs[i].2.1 ∧ SzV B w G[i].2.2 fs[i].2.2
theorem Vals.one {B : Nat} {w : World} {G : List G8} {fs : List F8} (h : Vals B w G fs) : ∀ u ∈ flatF G, u.oneCell' = true := by
  intro u hu
  obtain ⟨x, hx, hu⟩ := List.mem_flatMap.1 hu
  obtain ⟨i, hi, rfl⟩ := List.mem_iff_getElem.1 hx
  obtain ⟨_, _, sa, sc, e, _⟩ := h.at' i (by rw [← h.len]; exact hi) hi
  simp only [List.mem_cons, List.not_mem_nil, or_false] at hu
  rcases hu with rfl | rfl | rfl
  · rfl
  · rfl
  · rw [e]; rfl
theorem Vals.here {w x : World} {G : List G8} {fs : List F8} (h : Vals w.heap.size w G fs) (hb : Below w.heap.size w x) : Vals x.heap.size x G fs := ⟨h.len, fun i h1 h2 => by
  obtain ⟨e1, e2, s⟩ := h.at' i h1 h2
  exact ⟨e1, e2, s.here hb⟩⟩
theorem SzV.mono {B : Nat} {w x : World} {v : Value} {xs : List Int} (h : SzV B w v xs) (hb : Below B w x) : SzV B x v xs := by
  obtain ⟨sa, sc, e, s⟩ := h
  exact ⟨sa, sc, e, s.mono hb⟩
theorem Vals.mono {B : Nat} {w x : World} {G : List G8} {fs : List F8} (h : Vals B w G fs) (hb : Below B w x) : Vals B x G fs := ⟨h.len, fun i h1 h2 => by
  obtain ⟨e1, e2, s⟩ := h.at' i h1 h2
  exact ⟨e1, e2, s.mono hb⟩⟩
theorem Fls.vals {B : Nat} {w : World} {a : Option Addr} {fs : List F8} (h : Fls B w a fs) (hn : 0 < fs.length) :
    ∃ b off G, a = some ⟨b, off, none⟩ ∧ b < B ∧ Vals B w G fs ∧ ∀ j u, (flatF G)[j]? = some u → w.cell? ((⟨b, off, none⟩ : Addr).add j) = some u := by
  obtain ⟨b, off, sa, sc, rfl, hb, _⟩ := h 0 hn
  have one : ∀ i, i < fs.length → ∃ x : G8, ∀ h' : i < fs.length, (x.1 = fs[i].1 ∧ x.2.1 = fs[i].2.1 ∧ SzV B w x.2.2 fs[i].2.2) ∧ w.cell? ⟨b, off + i * 3, none⟩ = some (.int .i64 x.1) ∧ w.cell? ⟨b, off + i * 3 + 1, none⟩ = some (.int .i64 x.2.1) ∧ w.cell? ⟨b, off + i * 3 + 2, none⟩ = some x.2.2 := by
    intro i hi
    obtain ⟨b', off', sa, sc, e, _, c0, c1, c2, s⟩ := h i hi
    injection e with e
    injection e with e1 e2
    subst e1 e2
    exact ⟨(fs[i].1, fs[i].2.1, .slice sa fs[i].2.2.length sc), fun _ => ⟨⟨rfl, rfl, sa, sc, rfl, s⟩, c0, c1, c2⟩⟩
  obtain ⟨G, hl, hG⟩ := pick_list one
  refine ⟨b, off, G, rfl, hb, ⟨hl, fun i h1 h2 => (hG i h2 h1).1⟩, fun j u hu => ?_⟩
  have hj : j < (flatF G).length := (List.getElem?_eq_some_iff.1 hu).1
  rw [flatF_length] at hj
  have e : (⟨b, off, none⟩ : Addr).add j = ⟨b, off + j, none⟩ := by unfold Addr.add; split <;> simp_all
  rw [e]
  have hi : j / 3 < G.length := by omega
  obtain ⟨h0, h1, h2⟩ := flatF_get G (j / 3) hi
  obtain ⟨_, c0, c1, c2⟩ := hG (j / 3) hi (by omega)
  have h3 : j % 3 = 0 ∨ j % 3 = 1 ∨ j % 3 = 2 := by omega
  rcases h3 with h | h | h
  · rw [show j / 3 * 3 = j by omega, hu] at h0
    rw [h0, show off + j = off + j / 3 * 3 by omega]
    exact c0
  · rw [show j / 3 * 3 + 1 = j by omega, hu] at h1
    rw [h1, show off + j = off + j / 3 * 3 + 1 by omega]
    exact c1
  · rw [show j / 3 * 3 + 2 = j by omega, hu] at h2
    rw [h2, show off + j = off + j / 3 * 3 + 2 by omega]
    exact c2
theorem ismp_news {B : Nat} {w : World} {a : Addr} {xs : List Int} (h : ISmp B w (some a) xs) : ∀ j u, (flatI xs)[j]? = some u → w.cell? (a.add j) = some u := by
  intro j u hu
  unfold flatI at hu
  rw [List.getElem?_map] at hu
  have hj : j < xs.length := by
    rcases Nat.lt_or_ge j xs.length with k | k
    · exact k
    · rw [List.getElem?_eq_none k] at hu; cases hu
  rw [List.getElem?_eq_getElem hj] at hu
  obtain ⟨b, off, e, _, c⟩ := h j hj
  injection e with e
  subst e
  have e2 : (⟨b, off, none⟩ : Addr).add j = ⟨b, off + j, none⟩ := by unfold Addr.add; split <;> simp_all
  rw [e2, c]
  simpa using hu
/-- Numbers that can be read, behind a row of numbers. -/
theorem wpList_append_smp {P : Program} {w : World} {ops : Array Oper} {rest : List Oper} {o : Oper} {a : Act} {Q : Exit → Act → World → Prop} (hw : Region.wanted o (yielded ops a.tmps) = true) (s x : Operand) (t : TypeId)
    (ho : o.op = .call { callee := .builtin .append, args := #[s, x], argTypes := #[t, t] })
    (base : Nat) (e : TypeId) (i : TypeInfo) (z : Value) (ht : P.underlying t = some (.slice e)) (hi : P.info? e = some i) (hz : i.zero = some z) (hsize : i.size = 1) (hby : i.bytes = 8) (hzs : z.cells.size = 1)
    (v : Value) (n : Nat) (xs : List Value) (hs : a.eval s = v) (hown : w.ownsRow base e 1 v n xs) (u : Option Addr) (c B : Nat) (ys : List Int) (hx : a.eval x = .slice u ys.length c) (hu : ISmp B w u ys) (hn : n + ys.length ≤ 1048576) (hbase : base ≤ w.heap.size)
    (h : ∀ v' w', w'.ownsRow base e 1 v' (n + ys.length) (xs ++ flatI ys) → w.grownBy w' v.ownBlock → wpList P ops Q rest (a.put o.dst v') w') : wpList P ops Q (o :: rest) a w := by
  refine wpList_step fun K hK => ?_
  rw [if_pos hw]
  cases u with
  | some ad =>
    exact wp_append_own w s x t ho base e i z 1 8 ht hi hz hsize hby hzs (by decide) v n xs hs hown ad ys.length c (flatI ys) hx (by rw [flatI_length, Nat.mul_one]) (ismp_news hu) (flatI_one ys) (by unfold maxLen; omega) (by omega) hbase (fun v' w' k1 k2 _ => hK _ _ (h v' w' k1 k2))
  | none =>
    have hy : ys = [] := by
      cases ys with
      | nil => rfl
      | cons y r => obtain ⟨b, off, e, _⟩ := hu 0 (by simp); cases e
    subst hy
    have hrun : (Builtin.append_ #[t, t] o.type #[v, .slice none 0 c]).run P w = .ok v w := run_append_owned_none (P := P) (w := w) base t o.type e i 1 ht hi v n xs hown
    have k := h v w (by simpa [flatI] using hown) ⟨rfl, rfl, rfl, Nat.le_refl _, fun _ _ _ => rfl⟩
    rw [List.length_nil] at hx
    unfold Oper.wp
    simp [execOp, ho, resolve, invoke, builtin, hs, hx, hrun, Result.andThen]
    exact hK _ _ k
/-- A row of numbers of the call's own. -/
def NumPost (w : World) (xs : List Int) (e : Ending) (w' : World) : Prop := ∃ v, e = .returned v ∧ w'.ownsRow w.heap.size 2 1 v xs.length (flatI xs) ∧ Below w.heap.size w w'
end Go.Proofs.Ytibfclfidaofkas
