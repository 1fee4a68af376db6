/- Lemmas on the way, of several texts: NewSt, SpecNew7. -/
import Derived.Test.YtcepopboldnicamGrpN
import Derived.Test.YtcepopboldnicamGrpM
import Derived.Deep.DeepCutAuto
namespace Go.Proofs.Ytcepopboldnicam
open Go.ChangeShapes Go.WideShapes Go.ChangeAt Go.RowKit
set_option maxRecDepth 100000
set_option linter.unusedVariables false
set_option linter.unusedSimpArgs false

/-- The answer's place at w.heap.size, the Lend in variable b2, its three rows. -/
structure NlSt (w W : World) (b2 : Nat) (vT vO vP : Value) (T X Y : List Q4) : Prop where
  kept : Kept w [(w.heap.size, 0, .slice none 0 0), (w.heap.size, 1, .slice none 0 0), (w.heap.size, 2, .slice none 0 0), (b2, 0, vT), (b2, 1, vO), (b2, 2, vP)] [w.heap.size, b2] W
  rT : W.ownsRow (w.heap.size + 1) 83 4 vT T.length (flatQ T)
  rO : W.ownsRow (w.heap.size + 1) 73 4 vO X.length (flatQ X)
  rP : W.ownsRow (w.heap.size + 1) 73 4 vP Y.length (flatQ Y)
  ap : ∀ g, vO.ownBlock = some g → vP.ownBlock ≠ some g
  lo : w.heap.size + 1 ≤ b2
  sz : b2 < W.heap.size
  nT : vT.ownBlock ≠ some b2
  nO : vO.ownBlock ≠ some b2
  nP : vP.ownBlock ≠ some b2
section
variable {w W : World} {b2 : Nat} {vT vO vP : Value} {T X Y : List Q4}
theorem NlSt.next (d : NlSt w W b2 vT vO vP T X Y) {W' : World} (h : Below W.heap.size W W') : NlSt w W' b2 vT vO vP T X Y :=
  ⟨d.kept.next h, row_next d.rT h, row_next d.rO h, row_next d.rP h, d.ap, d.lo, Nat.lt_of_lt_of_le d.sz h.size, d.nT, d.nO, d.nP⟩
theorem NlSt.mem {c : Nat × Nat × Value} (hc : c ∈ [(w.heap.size, 0, Value.slice none 0 0), (w.heap.size, 1, .slice none 0 0), (w.heap.size, 2, .slice none 0 0), (b2, 0, vT), (b2, 1, vO), (b2, 2, vP)]) : c.1 = w.heap.size ∨ c.1 = b2 := by
  simp only [List.mem_cons, List.not_mem_nil, or_false] at hc
  rcases hc with rfl | rfl | rfl | rfl | rfl | rfl
  all_goals first | exact .inl rfl | exact .inr rfl
theorem NlSt.keeps (d : NlSt w W b2 vT vO vP T X Y) {W' : World} {row : Option Nat} (hg : W.grownBy W' row) (h1 : ∀ g, row = some g → w.heap.size + 1 ≤ g) (h2 : row ≠ some b2) : Kept w [(w.heap.size, 0, .slice none 0 0), (w.heap.size, 1, .slice none 0 0), (w.heap.size, 2, .slice none 0 0), (b2, 0, vT), (b2, 1, vO), (b2, 2, vP)] [w.heap.size, b2] W' := by
  refine d.kept.onlyO (OnlyO.of_grown hg) (fun j e => by have := h1 j e; omega) (fun c hc e => ?_) (fun b hb e => ?_)
  · rcases NlSt.mem hc with k | k
    · rw [k] at e
      have := h1 _ e
      omega
    · rw [k] at e
      exact h2 e
  · simp only [List.mem_cons, List.not_mem_nil, or_false] at hb
    rcases hb with rfl | rfl
    · have := h1 _ e
      omega
    · exact h2 e
theorem row_b2 {base b i : Nat} {v u : Value} {t : TypeId} {n : Nat} {xs : List Value} (h : W.ownsRow base t 4 v n xs) (hn : v.ownBlock ≠ some b) : (W.setCell ⟨b, i, none⟩ u).ownsRow base t 4 v n xs := by
  refine h.kept (row := some b) ⟨rfl, rfl, rfl, by simp, fun k _ hk => Below.heap_setCell _ _ _ _ (fun e => hk (by simp [e]))⟩ ?_
  cases ho : v.ownBlock with
  | none => exact .inl rfl
  | some g => exact .inr (fun e => hn (by rw [ho, e]))
/-- Own has grown by an append, and is stored. -/
theorem NlSt.appO (d : NlSt w W b2 vT vO vP T X Y) {W' : World} {v' : Value} {x : Q4} (hg : W.grownBy W' vO.ownBlock) (ho : W'.ownsRow (w.heap.size + 1) 73 4 v' (X.length + 1) (flatQ X ++ flatQ [x])) (hb : v'.ownBlock = vO.ownBlock ∨ v'.ownBlock = some W.heap.size) :
    NlSt w (W'.setCell ⟨b2, 1, none⟩ v') b2 vT v' vP T (X ++ [x]) Y := by
  have hsz := d.sz
  have k := d.keeps hg (fun g e => (d.rO.lt g e).1) d.nO
  have hn' : v'.ownBlock ≠ some b2 := fun e => by
    rcases hb with h | h
    · exact d.nO (h ▸ e)
    · rw [h] at e
      have := Option.some.inj e
      omega
  have hr : W'.ownsRow (w.heap.size + 1) 73 4 v' (X ++ [x]).length (flatQ (X ++ [x])) := by rw [flatQ_append, List.length_append]; exact ho
  have rT := d.rT.kept hg (rows_keep d.rT d.rO (by decide))
  have rP := d.rP.kept hg (by
    cases h : vP.ownBlock with
    | none => exact .inl rfl
    | some g => exact .inr (fun e => d.ap g e.symm h))
  have hlo := d.lo
  refine ⟨(k.put b2 1 v' (by omega)).to (by simp [putIn] <;> omega), row_b2 rT d.nT, row_b2 hr hn', row_b2 rP d.nP, fun g e h => ?_, hlo, by have := hg.size; simp; omega, d.nT, hn', d.nP⟩
  rcases hb with q | q
  · rw [q] at e
    exact d.ap g e h
  · rw [q] at e
    have e1 := Option.some.inj e
    have := (d.rP.lt g h).2
    omega
theorem NlSt.appP (d : NlSt w W b2 vT vO vP T X Y) {W' : World} {v' : Value} {x : Q4} (hg : W.grownBy W' vP.ownBlock) (ho : W'.ownsRow (w.heap.size + 1) 73 4 v' (Y.length + 1) (flatQ Y ++ flatQ [x])) (hb : v'.ownBlock = vP.ownBlock ∨ v'.ownBlock = some W.heap.size) :
    NlSt w (W'.setCell ⟨b2, 2, none⟩ v') b2 vT vO v' T X (Y ++ [x]) := by
  have hsz := d.sz
  have k := d.keeps hg (fun g e => (d.rP.lt g e).1) d.nP
  have hn' : v'.ownBlock ≠ some b2 := fun e => by
    rcases hb with h | h
    · exact d.nP (h ▸ e)
    · rw [h] at e
      have := Option.some.inj e
      omega
  have hr : W'.ownsRow (w.heap.size + 1) 73 4 v' (Y ++ [x]).length (flatQ (Y ++ [x])) := by rw [flatQ_append, List.length_append]; exact ho
  have rT := d.rT.kept hg (rows_keep d.rT d.rP (by decide))
  have rO := d.rO.kept hg (by
    cases h : vO.ownBlock with
    | none => exact .inl rfl
    | some g => exact .inr (fun e => d.ap g h e.symm))
  have hlo := d.lo
  refine ⟨(k.put b2 2 v' (by omega)).to (by simp [putIn] <;> omega), row_b2 rT d.nT, row_b2 rO d.nO, row_b2 hr hn', fun g e h => ?_, hlo, by have := hg.size; simp; omega, d.nT, d.nO, hn'⟩
  rcases hb with q | q
  · rw [q] at h
    exact d.ap g e h
  · rw [q] at h
    have e1 := Option.some.inj h
    have := (d.rO.lt g e).2
    omega
/-- A cell of another block is stored over. -/
theorem NlSt.side (d : NlSt w W b2 vT vO vP T X Y) (c i : Nat) (v : Value) (h1 : w.heap.size + 1 ≤ c) (h2 : c ≠ b2) (hT : vT.ownBlock ≠ some c) (hO : vO.ownBlock ≠ some c) (hP : vP.ownBlock ≠ some c) : NlSt w (W.setCell ⟨c, i, none⟩ v) b2 vT vO vP T X Y := by
  have hg := grown_set W c i v
  have k := d.keeps hg (fun g e => by have e1 : c = g := Option.some.inj e; omega) (fun e => h2 (Option.some.inj e))
  exact ⟨k, row_b2 d.rT hT, row_b2 d.rO hO, row_b2 d.rP hP, d.ap, d.lo, by simpa using d.sz, d.nT, d.nO, d.nP⟩
/-- A bucket in a variable of its own, and a flag. -/
def A8 (w : World) (b2 : Nat) (vT vO vP : Value) (T X Y : List Q4) (q : Q4) (lo : Nat) (s f : Value) (wd : World) : Prop := ∃ b8 fl, s = .pointer (some ⟨b8, 0, none⟩) ∧ f = .bool fl ∧ NlSt w wd b2 vT vO vP T X Y ∧ Cells wd [(b8, 0, .int .i64 q.1), (b8, 1, .int .i64 q.2.1), (b8, 2, .int .i64 q.2.2.1), (b8, 3, .int .i64 q.2.2.2)] ∧ lo ≤ b8
theorem a8_alloc (d : NlSt w W b2 vT vO vP T X Y) {lo : Nat} (hl : lo ≤ W.heap.size) (q : Q4) (fl : Bool) : A8 w b2 vT vO vP T X Y q lo (.pointer (some ⟨W.heap.size, 0, none⟩)) (.bool fl) (W.alloc (.cells #[.int .i64 q.1, .int .i64 q.2.1, .int .i64 q.2.2.1, .int .i64 q.2.2.2] 73)) :=
  ⟨_, fl, rfl, rfl, d.next (new_below _ _), ⟨⟨by simp, by go_simp⟩, ⟨by simp, by go_simp⟩, ⟨by simp, by go_simp⟩, ⟨by simp, by go_simp⟩, trivial⟩, hl⟩
theorem a8_set (d : NlSt w W b2 vT vO vP T X Y) {lo c : Nat} (hl : lo ≤ c) (q : Q4) (fl : Bool) {u0 u1 u2 u3 : Value} (h0 : W.cell? ⟨c, 0, none⟩ = some u0) (h1 : W.cell? ⟨c, 1, none⟩ = some u1) (h2 : W.cell? ⟨c, 2, none⟩ = some u2) (h3 : W.cell? ⟨c, 3, none⟩ = some u3) (k1 : w.heap.size + 1 ≤ c) (k2 : c ≠ b2) (hT : vT.ownBlock ≠ some c) (hO : vO.ownBlock ≠ some c) (hP : vP.ownBlock ≠ some c) :
    A8 w b2 vT vO vP T X Y q lo (.pointer (some ⟨c, 0, none⟩)) (.bool fl) ((((W.setCell ⟨c, 0, none⟩ (.int .i64 q.1)).setCell ⟨c, 1, none⟩ (.int .i64 q.2.1)).setCell ⟨c, 2, none⟩ (.int .i64 q.2.2.1)).setCell ⟨c, 3, none⟩ (.int .i64 q.2.2.2)) := by
  have hs : c < W.heap.size := World.block_lt_of_cell? W _ h0
  have hp := putQ_same (w := W) (g := c) (o := 0) q h0 h1 h2 h3
  exact ⟨c, fl, rfl, rfl, (((d.side c 0 _ k1 k2 hT hO hP).side c 1 _ k1 k2 hT hO hP).side c 2 _ k1 k2 hT hO hP).side c 3 _ k1 k2 hT hO hP, ⟨⟨by simpa using hs, hp.1⟩, ⟨by simpa using hs, hp.2.1⟩, ⟨by simpa using hs, hp.2.2.1⟩, ⟨by simpa using hs, hp.2.2.2⟩, trivial⟩, hl⟩
end
end Go.Proofs.Ytcepopboldnicam
namespace Go.Proofs.Ytcepopboldnicam
open Go.ChangeShapes Go.WideShapes Go.ChangeAt Go.RowKit
set_option maxRecDepth 100000
set_option linter.unusedVariables false
set_option linter.unusedSimpArgs false

/-- A Lend and a flag, made anew. -/
def NewPost (w : World) (T O P : List Q4) (f : Bool) (e : Ending) (w' : World) : Prop := ∃ a1 n1 c1 a2 n2 c2 a3 n3 c3, e = .returned (.tuple #[lendV a1 n1 c1 a2 n2 c2 a3 n3 c3, .bool f]) ∧ LV w' w.heap.size (.slice a1 n1 c1) (.slice a2 n2 c2) (.slice a3 n3 c3) T O P ∧ Below w.heap.size w w'
theorem cells_three {w : World} {g : Nat} {u0 u1 u2 : Value} (h0 : w.cell? ⟨g, 0, none⟩ = some u0) (h1 : w.cell? ⟨g, 1, none⟩ = some u1) (h2 : w.cell? ⟨g, 2, none⟩ = some u2) : ∀ j v, [u0, u1, u2][j]? = some v → w.cell? ⟨g, j, none⟩ = some v := by
  intro j v hv
  match j, hv with
  | 0, hv => obtain rfl : u0 = v := by simpa using hv
             exact h0
  | 1, hv => obtain rfl : u1 = v := by simpa using hv
             exact h1
  | 2, hv => obtain rfl : u2 = v := by simpa using hv
             exact h2
theorem nl_fin {w W : World} {b2 : Nat} {aV aX aY : Option Addr} {nV cV nX cX nY cY : Nat} {T X Y : List Q4} (d : NlSt w W b2 (.slice aV nV cV) (.slice aX nX cX) (.slice aY nY cY) T X Y) {a b c : Value} :
    LV (((W.setCell ⟨w.heap.size, 0, none⟩ a).setCell ⟨w.heap.size, 1, none⟩ b).setCell ⟨w.heap.size, 2, none⟩ c) w.heap.size (.slice aV nV cV) (.slice aX nX cX) (.slice aY nY cY) T X Y ∧ Below w.heap.size w (((W.setCell ⟨w.heap.size, 0, none⟩ a).setCell ⟨w.heap.size, 1, none⟩ b).setCell ⟨w.heap.size, 2, none⟩ c) := by
  refine ⟨⟨own_qv (row_lowC (row_set (row_set (row_set d.rT (by omega)) (by omega)) (by omega)) (by omega)), own_qv (row_lowC (row_set (row_set (row_set d.rO (by omega)) (by omega)) (by omega)) (by omega)), own_qv (row_lowC (row_set (row_set (row_set d.rP (by omega)) (by omega)) (by omega)) (by omega)), ?_, ?_, ?_⟩, ((d.kept.hb.setCell (Nat.le_refl _) _).setCell (Nat.le_refl _) _).setCell (Nat.le_refl _) _⟩
  · exact fun g h1 h2 => rows_apart d.rT d.rO (by decide) g (room_own h1) (room_own h2)
  · exact fun g h1 h2 => rows_apart d.rT d.rP (by decide) g (room_own h1) (room_own h2)
  · exact fun g h1 h2 => d.ap g (room_own h1) (room_own h2)
theorem four_newsC {w : World} {g : Nat} {u0 u1 u2 u3 : Value} (h0 : w.cell? ⟨g, 0, none⟩ = some u0) (h1 : w.cell? ⟨g, 1, none⟩ = some u1) (h2 : w.cell? ⟨g, 2, none⟩ = some u2) (h3 : w.cell? ⟨g, 3, none⟩ = some u3) : ∀ j v, [u0, u1, u2, u3][j]? = some v → w.cell? ((⟨g, 0, none⟩ : Addr).add j) = some v := by
  intro j v hv
  match j, hv with
  | 0, hv => obtain rfl : u0 = v := by simpa using hv
             exact h0
  | 1, hv => obtain rfl : u1 = v := by simpa using hv
             exact h1
  | 2, hv => obtain rfl : u2 = v := by simpa using hv
             exact h2
  | 3, hv => obtain rfl : u3 = v := by simpa using hv
             exact h3
theorem cells_side {w : World} {b c : Nat} {v0 v1 v2 v3 : Value} (h : Cells w [(b, 0, v0), (b, 1, v1), (b, 2, v2), (b, 3, v3)]) (q : Q4) (hn : b ≠ c) : Cells ((((w.setCell ⟨c, 0, none⟩ (.int .i64 q.1)).setCell ⟨c, 1, none⟩ (.int .i64 q.2.1)).setCell ⟨c, 2, none⟩ (.int .i64 q.2.2.1)).setCell ⟨c, 3, none⟩ (.int .i64 q.2.2.2)) [(b, 0, v0), (b, 1, v1), (b, 2, v2), (b, 3, v3)] := by
  refine Cells.onlyO (OnlyO.of_only (putQ_only (x := q) (o := 0) (Only.refl c w))) (fun x hx e => ?_) h
  have e1 : c = x.1 := Option.some.inj e
  simp only [List.mem_cons, List.not_mem_nil, or_false] at hx
  rcases hx with rfl | rfl | rfl | rfl <;> exact hn e1.symm
theorem take_map {T : List Q4} {k : Nat} (h : k < T.length) (f : Q4 → Q4) : (T.take (k + 1)).map f = (T.take k).map f ++ [f T[k]] := by
  rw [List.take_succ_eq_append_getElem h, List.map_append]
  rfl
end Go.Proofs.Ytcepopboldnicam
