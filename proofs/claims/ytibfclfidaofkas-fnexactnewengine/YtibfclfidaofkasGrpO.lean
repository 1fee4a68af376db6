/- Lemmas on the way, of several texts: NewSt, SpecNew7. -/
import Derived.Test.YtibfclfidaofkasGrpN
import Derived.Test.YtibfclfidaofkasGrpM
import Derived.Deep.DeepCutAuto
namespace Go.Proofs.Ytibfclfidaofkas
open Go.ChangeShapes Go.WideShapes Go.ChangeAt Go.RowKit
set_option maxRecDepth 100000
set_option linter.unusedVariables false
set_option linter.unusedSimpArgs false

/-- The answer's place at w.heap.size, the Lend in variable b2, its three rows. -/
structure NlSt (w W : World) (b2 : Nat) (vT vO vP : Value) (T X Y : List Q4) : Prop where
  kept : Kept w [(w.heap.size, 0, .slice none 0 0), (w.heap.size, 1, .slice none 0 0), (w.heap.size, 2, .slice none 0 0), (b2, 0, vT), (b2, 1, vO), (b2, 2, vP)] [w.heap.size, b2] W
  rT : W.ownsRow (w.heap.size + 1) 81 4 vT T.length (flatQ T)
  rO : W.ownsRow (w.heap.size + 1) 57 4 vO X.length (flatQ X)
  rP : W.ownsRow (w.heap.size + 1) 57 4 vP Y.length (flatQ Y)
  ap : ∀ g, vO.ownBlock = some g → vP.ownBlock ≠ some g
  lo : w.heap.size + 1 ≤ b2
  sz : b2 < W.heap.size
  nT : vT.ownBlock ≠ some b2
  nO : vO.ownBlock ≠ some b2
  nP : vP.ownBlock ≠ some b2
section
variable {w W : World} {b2 : Nat} {vT vO vP : Value} {T X Y : List Q4}
theorem NlSt.next (d : NlSt w W b2 vT vO vP T X Y) {W' : World} (h : Below W.heap.size W W') : NlSt w W' b2 vT vO vP T X Y :=
  ⟨d.kept.next h, row_next d.rT h, row_next d.rO h, row_next d.rP h, d.ap, d.lo, Nat.lt_of_lt_of_le d.sz h.size, d.nT, d.nO, d.nP⟩
theorem NlSt.mem {c : Nat × Nat × Value} (hc : c ∈ [(w.heap.size, 0, Value.slice none 0 0), (w.heap.size, 1, .slice none 0 0), (w.heap.size, 2, .slice none 0 0), (b2, 0, vT), (b2, 1, vO), (b2, 2, vP)]) : c.1 = w.heap.size ∨ c.1 = b2 := by
  simp only [List.mem_cons, List.not_mem_nil, or_false] at hc
  rcases hc with rfl | rfl | rfl | rfl | rfl | rfl
  all_goals first | exact .inl rfl | exact .inr rfl
theorem NlSt.keeps (d : NlSt w W b2 vT vO vP T X Y) {W' : World} {row : Option Nat} (hg : W.grownBy W' row) (h1 : ∀ g, row = some g → w.heap.size + 1 ≤ g) (h2 : row ≠ some b2) : Kept w [(w.heap.size, 0, .slice none 0 0), (w.heap.size, 1, .slice none 0 0), (w.heap.size, 2, .slice none 0 0), (b2, 0, vT), (b2, 1, vO), (b2, 2, vP)] [w.heap.size, b2] W' := by
  refine d.kept.onlyO (OnlyO.of_grown hg) (fun j e => by have := h1 j e; omega) (fun c hc e => ?_) (fun b hb e => ?_)
  · rcases NlSt.mem hc with k | k
    · rw [k] at e
      have := h1 _ e
      omega
    · rw [k] at e
      exact h2 e
  · simp only [List.mem_cons, List.not_mem_nil, or_false] at hb
    rcases hb with rfl | rfl
    · have := h1 _ e
      omega
    · exact h2 e
theorem row_b2 {base b i : Nat} {v u : Value} {t : TypeId} {n : Nat} {xs : List Value} (h : W.ownsRow base t 4 v n xs) (hn : v.ownBlock ≠ some b) : (W.setCell ⟨b, i, none⟩ u).ownsRow base t 4 v n xs := by
  refine h.kept (row := some b) ⟨rfl, rfl, rfl, by simp, fun k _ hk => Below.heap_setCell _ _ _ _ (fun e => hk (by simp [e]))⟩ ?_
  cases ho : v.ownBlock with
  | none => exact .inl rfl
  | some g => exact .inr (fun e => hn (by rw [ho, e]))
/-- Own has grown by an append, and is stored. -/
theorem NlSt.appO (d : NlSt w W b2 vT vO vP T X Y) {W' : World} {v' : Value} {x : Q4} (hg : W.grownBy W' vO.ownBlock) (ho : W'.ownsRow (w.heap.size + 1) 57 4 v' (X.length + 1) (flatQ X ++ flatQ [x])) (hb : v'.ownBlock = vO.ownBlock ∨ v'.ownBlock = some W.heap.size) :
    NlSt w (W'.setCell ⟨b2, 1, none⟩ v') b2 vT v' vP T (X ++ [x]) Y := by
  have hsz := d.sz
  have k := d.keeps hg (fun g e => (d.rO.lt g e).1) d.nO
  have hn' : v'.ownBlock ≠ some b2 := fun e => by
    rcases hb with h | h
    · exact d.nO (h ▸ e)
    · rw [h] at e
      have := Option.some.inj e
      omega
  have hr : W'.ownsRow (w.heap.size + 1) 57 4 v' (X ++ [x]).length (flatQ (X ++ [x])) := by rw [flatQ_append, List.length_append]; exact ho
  have rT := d.rT.kept hg (rows_keep d.rT d.rO (by decide))
  have rP := d.rP.kept hg (by
    cases h : vP.ownBlock with
    | none => exact .inl rfl
    | some g => exact .inr (fun e => d.ap g e.symm h))
  have hlo := d.lo
  refine ⟨(k.put b2 1 v' (by omega)).to (by simp [putIn] <;> omega), row_b2 rT d.nT, row_b2 hr hn', row_b2 rP d.nP, fun g e h => ?_, hlo, by have := hg.size; simp; omega, d.nT, hn', d.nP⟩
  rcases hb with q | q
  · rw [q] at e
    exact d.ap g e h
  · rw [q] at e
    have e1 := Option.some.inj e
    have := (d.rP.lt g h).2
    omega
theorem NlSt.appP (d : NlSt w W b2 vT vO vP T X Y) {W' : World} {v' : Value} {x : Q4} (hg : W.grownBy W' vP.ownBlock) (ho : W'.ownsRow (w.heap.size + 1) 57 4 v' (Y.length + 1) (flatQ Y ++ flatQ [x])) (hb : v'.ownBlock = vP.ownBlock ∨ v'.ownBlock = some W.heap.size) :
    NlSt w (W'.setCell ⟨b2, 2, none⟩ v') b2 vT vO v' T X (Y ++ [x]) := by
  have hsz := d.sz
  have k := d.keeps hg (fun g e => (d.rP.lt g e).1) d.nP
  have hn' : v'.ownBlock ≠ some b2 := fun e => by
    rcases hb with h | h
    · exact d.nP (h ▸ e)
    · rw [h] at e
      have := Option.some.inj e
      omega
  have hr : W'.ownsRow (w.heap.size + 1) 57 4 v' (Y ++ [x]).length (flatQ (Y ++ [x])) := by rw [flatQ_append, List.length_append]; exact ho
  have rT := d.rT.kept hg (rows_keep d.rT d.rP (by decide))
  have rO := d.rO.kept hg (by
    cases h : vO.ownBlock with
    | none => exact .inl rfl
    | some g => exact .inr (fun e => d.ap g h e.symm))
  have hlo := d.lo
  refine ⟨(k.put b2 2 v' (by omega)).to (by simp [putIn] <;> omega), row_b2 rT d.nT, row_b2 rO d.nO, row_b2 hr hn', fun g e h => ?_, hlo, by have := hg.size; simp; omega, d.nT, d.nO, hn'⟩
  rcases hb with q | q
  · rw [q] at h
    exact d.ap g e h
  · rw [q] at h
    have e1 := Option.some.inj h
    have := (d.rO.lt g e).2
    omega
/-- A cell of another block is stored over. -/
theorem NlSt.side (d : NlSt w W b2 vT vO vP T X Y) (c i : Nat) (v : Value) (h1 : w.heap.size + 1 ≤ c) (h2 : c ≠ b2) (hT : vT.ownBlock ≠ some c) (hO : vO.ownBlock ≠ some c) (hP : vP.ownBlock ≠ some c) : NlSt w (W.setCell ⟨c, i, none⟩ v) b2 vT vO vP T X Y := by
  have hg := grown_set W c i v
  have k := d.keeps hg (fun g e => by have e1 : c = g := Option.some.inj e; omega) (fun e => h2 (Option.some.inj e))
  exact ⟨k, row_b2 d.rT hT, row_b2 d.rO hO, row_b2 d.rP hP, d.ap, d.lo, by simpa using d.sz, d.nT, d.nO, d.nP⟩
/-- A bucket in a variable of its own, and a flag. -/
def A8 (w : World) (b2 : Nat) (vT vO vP : Value) (T X Y : List Q4) (q : Q4) (lo : Nat) (s f : Value) (wd : World) : Prop := ∃ b8 fl, s = .pointer (some ⟨b8, 0, none⟩) ∧ f = .bool fl ∧ NlSt w wd b2 vT vO vP T X Y ∧ Cells wd [(b8, 0, .int .i64 q.1), (b8, 1, .int .i64 q.2.1), (b8, 2, .int .i64 q.2.2.1), (b8, 3, .int .i64 q.2.2.2)] ∧ lo ≤ b8
theorem a8_alloc (d : NlSt w W b2 vT vO vP T X Y) {lo : Nat} (hl : lo ≤ W.heap.size) (q : Q4) (fl : Bool) : A8 w b2 vT vO vP T X Y q lo (.pointer (some ⟨W.heap.size, 0, none⟩)) (.bool fl) (W.alloc (.cells #[.int .i64 q.1, .int .i64 q.2.1, .int .i64 q.2.2.1, .int .i64 q.2.2.2] 57)) :=
  ⟨_, fl, rfl, rfl, d.next (new_below _ _), ⟨⟨by simp, by go_simp⟩, ⟨by simp, by go_simp⟩, ⟨by simp, by go_simp⟩, ⟨by simp, by go_simp⟩, trivial⟩, hl⟩
theorem a8_set (d : NlSt w W b2 vT vO vP T X Y) {lo c : Nat} (hl : lo ≤ c) (q : Q4) (fl : Bool) {u0 u1 u2 u3 : Value} (h0 : W.cell? ⟨c, 0, none⟩ = some u0) (h1 : W.cell? ⟨c, 1, none⟩ = some u1) (h2 : W.cell? ⟨c, 2, none⟩ = some u2) (h3 : W.cell? ⟨c, 3, none⟩ = some u3) (k1 : w.heap.size + 1 ≤ c) (k2 : c ≠ b2) (hT : vT.ownBlock ≠ some c) (hO : vO.ownBlock ≠ some c) (hP : vP.ownBlock ≠ some c) :
    A8 w b2 vT vO vP T X Y q lo (.pointer (some ⟨c, 0, none⟩)) (.bool fl) ((((W.setCell ⟨c, 0, none⟩ (.int .i64 q.1)).setCell ⟨c, 1, none⟩ (.int .i64 q.2.1)).setCell ⟨c, 2, none⟩ (.int .i64 q.2.2.1)).setCell ⟨c, 3, none⟩ (.int .i64 q.2.2.2)) := by
  have hs : c < W.heap.size := World.block_lt_of_cell? W _ h0
  have hp := putQ_same (w := W) (g := c) (o := 0) q h0 h1 h2 h3
  exact ⟨c, fl, rfl, rfl, (((d.side c 0 _ k1 k2 hT hO hP).side c 1 _ k1 k2 hT hO hP).side c 2 _ k1 k2 hT hO hP).side c 3 _ k1 k2 hT hO hP, ⟨⟨by simpa using hs, hp.1⟩, ⟨by simpa using hs, hp.2.1⟩, ⟨by simpa using hs, hp.2.2.1⟩, ⟨by simpa using hs, hp.2.2.2⟩, trivial⟩, hl⟩
end
end Go.Proofs.Ytibfclfidaofkas
namespace Go.Proofs.Ytibfclfidaofkas
open Go.ChangeShapes Go.WideShapes Go.ChangeAt Go.RowKit
set_option maxRecDepth 100000
set_option linter.unusedVariables false
set_option linter.unusedSimpArgs false

/-- A Lend and a flag, made anew. -/
def NewPost (w : World) (T O P : List Q4) (f : Bool) (e : Ending) (w' : World) : Prop := ∃ a1 n1 c1 a2 n2 c2 a3 n3 c3, e = .returned (.tuple #[lendV a1 n1 c1 a2 n2 c2 a3 n3 c3, .bool f]) ∧ LV w' w.heap.size (.slice a1 n1 c1) (.slice a2 n2 c2) (.slice a3 n3 c3) T O P ∧ Below w.heap.size w w'
theorem cells_three_SpecNew7 {w : World} {g : Nat} {u0 u1 u2 : Value} (h0 : w.cell? ⟨g, 0, none⟩ = some u0) (h1 : w.cell? ⟨g, 1, none⟩ = some u1) (h2 : w.cell? ⟨g, 2, none⟩ = some u2) : ∀ j v, [u0, u1, u2][j]? = some v → w.cell? ⟨g, j, none⟩ = some v := by
  intro j v hv
  match j, hv with
  | 0, hv => obtain rfl : u0 = v := by simpa using hv
             exact h0
  | 1, hv => obtain rfl : u1 = v := by simpa using hv
             exact h1
  | 2, hv => obtain rfl : u2 = v := by simpa using hv
             exact h2
theorem full_is {r u t : Int} (h1 : rateB r = true) (h2 : winB u = true) (h3 : timeB t = true) (w : World) : Calls Try.prog 81 #[.int .i64 r, .int .i64 u, .int .i64 t] w fun e w' => e = .returned (.tuple #[.agg #[.int .i64 r, .int .i64 u, .int .i64 (1000000000 * u), .int .i64 t], .bool true]) ∧ Below w.heap.size w w' := by
  have hk : fullOk r u t = true := by unfold fullOk; rw [h1, h2, h3]; rfl
  have h := specFull_any r u t w
  unfold fullOf at h
  rw [hk, if_pos rfl] at h
  exact h
set_option maxHeartbeats 4000000 in
theorem specNewLend_no {w : World} {aT : Option Addr} (cT : Nat) {T : List Q4} (at' : Int) (hT : Quad w.heap.size w aT T) (hn : newB_LendMath T at' = false) :
    Calls Try.prog 40 #[.slice aT T.length cT, .int .i64 at'] w (NewPost w [] [] [] false) := by
  have nb : Below w.heap.size w (w.alloc (.cells #[.slice none 0 0, .slice none 0 0, .slice none 0 0] 35)) := new_below _ _
  have KW : Hid (Kept w [(w.heap.size, 0, .slice none 0 0), (w.heap.size, 1, .slice none 0 0), (w.heap.size, 2, .slice none 0 0)] [w.heap.size] (w.alloc (.cells #[.slice none 0 0, .slice none 0 0, .slice none 0 0] 35))) :=
    ⟨⟨⟨by simp, by go_simp⟩, ⟨by simp, by go_simp⟩, ⟨by simp, by go_simp⟩, trivial⟩, (fun b hb => by simp only [List.mem_cons, List.not_mem_nil, or_false] at hb; subst hb; exact ⟨by simp, fun o => by go_simp⟩), nb⟩
  by_cases hc : treeCode T = 0
  · have ht : timeB at' = false := by unfold newB_LendMath at hn; rw [decide_eq_true hc, Bool.true_and] at hn; exact hn
    go_enter Try.func40, Try.ntmps40
    go_wp2_with (first
      | (go_at_call 54; refine (specTree_is cT hc (hT.here nb)).mono ?_; rintro e w2 ⟨rfl, hb2⟩; have K2 : Hid (Kept w _ [w.heap.size] w2) := KW.out.next hb2; have ⟨⟨_, q0⟩, ⟨_, q1⟩, ⟨_, q2⟩, _⟩ := K2.out.cells; have fr := (K2.out.free _ (List.mem_singleton.2 rfl)).2)
      | (go_at_call 21; refine (sTime_is ht _).mono ?_; rintro e w3 ⟨rfl, rfl⟩))
    refine bodyPost_ret (results_two rfl _ _ _ [.slice none 0 0, .slice none 0 0, .slice none 0 0] rfl (set_three (u0 := .slice none 0 0) (u1 := .slice none 0 0) (u2 := .slice none 0 0) _ _ _ q0 q1 q2) Try.underlying35 rfl (by kernel_rfl)) rfl ?_
    exact ⟨_, _, _, _, _, _, _, _, _, rfl, LV.zero _ _, ((K2.out.hb.setCell (Nat.le_refl _) _).setCell (Nat.le_refl _) _).setCell (Nat.le_refl _) _⟩
  · have hc' : (treeCode T == 0) = false := by simp [hc]
    go_enter Try.func40, Try.ntmps40
    go_wp2_with (first
      | (go_at_call 54; refine (specTree_any cT (hT.here nb)).mono ?_; rintro e w2 ⟨rfl, hb2⟩; have K2 : Hid (Kept w _ [w.heap.size] w2) := KW.out.next hb2; have ⟨⟨_, q0⟩, ⟨_, q1⟩, ⟨_, q2⟩, _⟩ := K2.out.cells; have fr := (K2.out.free _ (List.mem_singleton.2 rfl)).2))
    refine bodyPost_ret (results_two rfl _ _ _ [.slice none 0 0, .slice none 0 0, .slice none 0 0] rfl (set_three (u0 := .slice none 0 0) (u1 := .slice none 0 0) (u2 := .slice none 0 0) _ _ _ q0 q1 q2) Try.underlying35 rfl (by kernel_rfl)) rfl ?_
    exact ⟨_, _, _, _, _, _, _, _, _, rfl, LV.zero _ _, ((K2.out.hb.setCell (Nat.le_refl _) _).setCell (Nat.le_refl _) _).setCell (Nat.le_refl _) _⟩
theorem nl_fin {w W : World} {b2 : Nat} {aV aX aY : Option Addr} {nV cV nX cX nY cY : Nat} {T X Y : List Q4} (d : NlSt w W b2 (.slice aV nV cV) (.slice aX nX cX) (.slice aY nY cY) T X Y) {a b c : Value} :
    LV (((W.setCell ⟨w.heap.size, 0, none⟩ a).setCell ⟨w.heap.size, 1, none⟩ b).setCell ⟨w.heap.size, 2, none⟩ c) w.heap.size (.slice aV nV cV) (.slice aX nX cX) (.slice aY nY cY) T X Y ∧ Below w.heap.size w (((W.setCell ⟨w.heap.size, 0, none⟩ a).setCell ⟨w.heap.size, 1, none⟩ b).setCell ⟨w.heap.size, 2, none⟩ c) := by
  refine ⟨⟨own_qv (row_lowC (row_set (row_set (row_set d.rT (by omega)) (by omega)) (by omega)) (by omega)), own_qv (row_lowC (row_set (row_set (row_set d.rO (by omega)) (by omega)) (by omega)) (by omega)), own_qv (row_lowC (row_set (row_set (row_set d.rP (by omega)) (by omega)) (by omega)) (by omega)), ?_, ?_, ?_⟩, ((d.kept.hb.setCell (Nat.le_refl _) _).setCell (Nat.le_refl _) _).setCell (Nat.le_refl _) _⟩
  · exact fun g h1 h2 => rows_apart d.rT d.rO (by decide) g (room_own h1) (room_own h2)
  · exact fun g h1 h2 => rows_apart d.rT d.rP (by decide) g (room_own h1) (room_own h2)
  · exact fun g h1 h2 => d.ap g (room_own h1) (room_own h2)
theorem four_newsC {w : World} {g : Nat} {u0 u1 u2 u3 : Value} (h0 : w.cell? ⟨g, 0, none⟩ = some u0) (h1 : w.cell? ⟨g, 1, none⟩ = some u1) (h2 : w.cell? ⟨g, 2, none⟩ = some u2) (h3 : w.cell? ⟨g, 3, none⟩ = some u3) : ∀ j v, [u0, u1, u2, u3][j]? = some v → w.cell? ((⟨g, 0, none⟩ : Addr).add j) = some v := by
  intro j v hv
  match j, hv with
  | 0, hv => obtain rfl : u0 = v := by simpa using hv
             exact h0
  | 1, hv => obtain rfl : u1 = v := by simpa using hv
             exact h1
  | 2, hv => obtain rfl : u2 = v := by simpa using hv
             exact h2
  | 3, hv => obtain rfl : u3 = v := by simpa using hv
             exact h3
theorem cells_side {w : World} {b c : Nat} {v0 v1 v2 v3 : Value} (h : Cells w [(b, 0, v0), (b, 1, v1), (b, 2, v2), (b, 3, v3)]) (q : Q4) (hn : b ≠ c) : Cells ((((w.setCell ⟨c, 0, none⟩ (.int .i64 q.1)).setCell ⟨c, 1, none⟩ (.int .i64 q.2.1)).setCell ⟨c, 2, none⟩ (.int .i64 q.2.2.1)).setCell ⟨c, 3, none⟩ (.int .i64 q.2.2.2)) [(b, 0, v0), (b, 1, v1), (b, 2, v2), (b, 3, v3)] := by
  refine Cells.onlyO (OnlyO.of_only (putQ_only (x := q) (o := 0) (Only.refl c w))) (fun x hx e => ?_) h
  have e1 : c = x.1 := Option.some.inj e
  simp only [List.mem_cons, List.not_mem_nil, or_false] at hx
  rcases hx with rfl | rfl | rfl | rfl <;> exact hn e1.symm
theorem take_map {T : List Q4} {k : Nat} (h : k < T.length) (f : Q4 → Q4) : (T.take (k + 1)).map f = (T.take k).map f ++ [f T[k]] := by
  rw [List.take_succ_eq_append_getElem h, List.map_append]
  rfl
set_option maxHeartbeats 16000000 in
theorem specNewLend_yes {w : World} {aT : Option Addr} (cT : Nat) {T : List Q4} (at' : Int) (hT : Quad w.heap.size w aT T) (hn : newB_LendMath T at' = true) :
    Calls Try.prog 40 #[.slice aT T.length cT, .int .i64 at'] w (NewPost w T (T.map (ownFull at')) (T.map (topFull at')) true) := by
  have hnb := hn
  unfold newB_LendMath at hnb
  rw [Bool.and_eq_true] at hnb
  have hc := of_decide_eq_true hnb.1
  have ht := hnb.2
  have htr := tree_of hc
  have h30 := htr.l1
  have h01 := htr.l0
  have HCL : Hid (∀ k (h : k < T.length), rateB T[k].2.1 = true ∧ rateB T[k].2.2.1 = true ∧ winB T[k].2.2.2 = true) := fun k h => by
    have hk := htr.sound.cls k h
    unfold clsB at hk
    simp only [Bool.and_eq_true] at hk
    refine ⟨hk.1.1.1.1, hk.1.1.1.2, ?_⟩
    have hu := hk.2
    unfold burB at hu
    unfold winB
    rw [Bool.and_eq_true] at hu ⊢
    have := of_decide_eq_true hu.1
    exact ⟨decide_eq_true (by omega), hu.2⟩
  clear hnb htr hn
  obtain ⟨iC, hiC, zC0, zC1, zC2⟩ := info_parts info_class
  obtain ⟨iB, hiB, zB0, zB1, zB2⟩ := info_parts info_bucket
  have hTi : (T.length : Int) ≤ 30 := by omega
  obtain ⟨bT, oT, rfl, hbT, -⟩ := hT 0 h01
  have nb : Below w.heap.size w (w.alloc (.cells #[.slice none 0 0, .slice none 0 0, .slice none 0 0] 35)) := new_below _ _
  have KW : Hid (Kept w [(w.heap.size, 0, .slice none 0 0), (w.heap.size, 1, .slice none 0 0), (w.heap.size, 2, .slice none 0 0)] [w.heap.size] (w.alloc (.cells #[.slice none 0 0, .slice none 0 0, .slice none 0 0] 35))) :=
    ⟨⟨⟨by simp, by go_simp⟩, ⟨by simp, by go_simp⟩, ⟨by simp, by go_simp⟩, trivial⟩, (fun b hb => by simp only [List.mem_cons, List.not_mem_nil, or_false] at hb; subst hb; exact ⟨by simp, fun o => by go_simp⟩), nb⟩
  have z0 : (w.alloc (.cells #[.slice none 0 0, .slice none 0 0, .slice none 0 0] 35)).heap.size = w.heap.size + 1 := by simp
  go_enter Try.func40, Try.ntmps40
  go_upto_region 3 with (first
    | (go_at_call 54; refine (specTree_is cT hc (hT.here nb)).mono ?_; rintro e w2 ⟨rfl, hb2⟩; have K2 : Hid (Kept w _ [w.heap.size] w2) := KW.out.next hb2)
    | (go_at_call 21; refine (sTime_is ht _).mono ?_; rintro e w3 ⟨rfl, rfl⟩))
  have hs2 := hb2.size
  rw [z0] at hs2
  have K3 := K2.out.next (new_below w3 (.cells #[] 81))
  have hq3 : Quad (w3.alloc (.cells #[] 81)).heap.size (w3.alloc (.cells #[] 81)) (some ⟨bT, oT, none⟩) T := hT.here K3.hb
  go_upto_region 4 with (at_builtin; refine wpList_append_own _ rfl _ _ 32 rfl (w.heap.size + 1) 81 iC _ 4 32 Try.underlying32 hiC zC0 zC1 zC2 rfl (by decide) _ 0 [] rfl (own_noneQ w3 (w.heap.size + 1) hs2 _) ⟨bT, oT, none⟩ T.length cT (flatQ T) rfl (flatQ_length T) (quad_news hq3) (flatQ_cell T) ?c3 ?c4 ?c5 ?c6; rotate_left 3; intro v' w4 hown hgr hnil; rw [Nat.zero_add, List.nil_append] at hown; obtain ⟨aV, cV, rfl⟩ := own_slice hown)
  case c3 => unfold maxLen; omega
  case c4 => omega
  case c5 => simp; omega
  have K4 : Kept w [(w.heap.size, 0, .slice none 0 0), (w.heap.size, 1, .slice none 0 0), (w.heap.size, 2, .slice none 0 0)] [w.heap.size] w4 := by
    refine K3.onlyO (OnlyO.of_grown hgr) (fun j e => by have e1 : w3.heap.size = j := Option.some.inj e; omega) (fun c hc e => ?_) (fun b hb e => ?_)
    · have e1 : w3.heap.size = c.1 := Option.some.inj e
      simp only [List.mem_cons, List.not_mem_nil, or_false] at hc
      rcases hc with rfl | rfl | rfl <;> simp only at e1 <;> omega
    · have e1 : w3.heap.size = b := Option.some.inj e
      simp only [List.mem_cons, List.not_mem_nil, or_false] at hb
      omega
  have hs4 := hgr.size
  have D : Hid (NlSt w (w4.alloc (.cells #[.slice aV T.length cV, .slice none 0 0, .slice none 0 0] 35)) w4.heap.size (.slice aV T.length cV) (.slice none 0 0) (.slice none 0 0) T [] []) := by
    have K5 := K4.next (new_below w4 (.cells #[.slice aV T.length cV, .slice none 0 0, .slice none 0 0] 35))
    obtain ⟨⟨e0, e1, e2, _⟩, hf, hbb⟩ := K5
    simp only [World.size_alloc] at hs4
    exact ⟨⟨⟨e0, e1, e2, ⟨by simp, by go_simp⟩, ⟨by simp, by go_simp⟩, ⟨by simp, by go_simp⟩, trivial⟩, (fun b hb => by simp only [List.mem_cons, List.not_mem_nil, or_false] at hb; rcases hb with rfl | rfl; exact hf _ (List.mem_singleton.2 rfl); exact ⟨by simp, fun o => by go_simp⟩), hbb⟩, hown.alloc _, World.ownsRow_nil _ _ _ _, World.ownsRow_nil _ _ _ _, (fun g e => by cases e), by omega, by simp, (fun e => by have := (hown.lt _ e).2; omega), (fun e => by cases e), (fun e => by cases e)⟩
  clear K2 K3 K4 KW hq3 hown hgr hnil hb2 hs2 hs4 z0 nb
  obtain ⟨v0, hv0⟩ : ∃ v, w4.alloc (.cells #[.slice aV T.length cV, .slice none 0 0, .slice none 0 0] 35) = v := ⟨_, rfl⟩
  rw [hv0] at D ⊢
  obtain ⟨b2, hb2⟩ : ∃ b, w4.heap.size = b := ⟨_, rfl⟩
  rw [hb2] at D ⊢
  clear hv0 hb2
  go_wp2
  go_loopw [7] (fun i wr => ∃ (k : Nat) (X Y : List Q4) (aX : Option Addr) (cX : Nat) (aY : Option Addr) (cY : Nat), i = .int .i64 k ∧ k ≤ T.length ∧ Hid (X = (T.take k).map (ownFull at')) ∧ Hid (Y = (T.take k).map (topFull at')) ∧ Hid (NlSt w wr b2 (.slice aV T.length cV) (.slice aX X.length cX) (.slice aY Y.length cY) T X Y)) (fun i _ => T.length - (intOf i).toNat)
  case atStart => exact ⟨0, [], [], none, 0, none, 0, rfl, by omega, rfl, rfl, D⟩
  case round =>
    clear D
    obtain ⟨k, X, Y, aX, cX, aY, cY, rfl, hk, HX, HY, D⟩ := hrel
    have hbw := D.out.kept.hb
    by_cases hlt : k < T.length
    · have hlt' : (k : Int) < (T.length : Int) := by omega
      have hcl := HCL.out k hlt
      obtain ⟨x0, x1, x2, x3⟩ := hT.cells hbw k hlt
      have hS1 := take_map hlt (ownFull at')
      have hS2 := take_map hlt (topFull at')
      obtain ⟨b, hb⟩ : ∃ b, T[k] = b := ⟨_, rfl⟩
      rw [hb] at x0 x1 x2 x3 hcl hS1 hS2
      obtain ⟨p, r, c, u⟩ := b
      simp only at x0 x1 x2 x3 hcl
      have HS1 : Hid ((T.take (k + 1)).map (ownFull at') = X ++ [(r, u, 1000000000 * u, at')]) := by rw [← HX.out] at hS1; exact hS1
      have HS2 : Hid ((T.take (k + 1)).map (topFull at') = Y ++ [(c, u, 1000000000 * u, at')]) := by rw [← HY.out] at hS2; exact hS2
      have hf1 := fun W : World => full_is hcl.1 hcl.2.2 ht W
      have hf2 := fun W : World => full_is hcl.2.1 hcl.2.2 ht W
      have HT : Hid (T[k] = (p, r, c, u)) := hb
      clear hb hS1 hS2 hcl
      have z2 := D.out.sz
      have zl := D.out.lo
      have oT1 : (Value.slice aV T.length cV).ownBlock ≠ some wr.heap.size := fun e => by have := (D.out.rT.lt _ e).2; omega
      have oX1 : (Value.slice aX X.length cX).ownBlock ≠ some wr.heap.size := fun e => by have := (D.out.rO.lt _ e).2; omega
      have oY1 : (Value.slice aY Y.length cY).ownBlock ≠ some wr.heap.size := fun e => by have := (D.out.rP.lt _ e).2; omega
      have hbTr : bT < wr.heap.size := Nat.lt_of_lt_of_le hbT hbw.size
      have nW : wr.heap.size ≠ bT := by omega
      go_upto_region 7 with (fail)
      go_cut [8, 9] from 31 to 45 (fun s f wd => A8 w b2 (.slice aV T.length cV) (.slice aX X.length cX) (.slice aY Y.length cY) T X Y (r, u, 1000000000 * u, at') wr.heap.size s f wd)
      case first =>
        go_region_held3 (fun w' => w'.cell? ⟨bT, oT + k * 4 + 1, none⟩ = some (.int .i64 r) ∧ w'.cell? ⟨bT, oT + k * 4 + 3, none⟩ = some (.int .i64 u)) (first | go_keep | exact ⟨(set_far nW).trans ((set_far nW).trans ((set_far nW).trans ((set_far nW).trans j1))), (set_far nW).trans ((set_far nW).trans ((set_far nW).trans ((set_far nW).trans j3)))⟩)
          (first | (go_at_call 81; refine (hf1 _).mono ?_; rintro e v2 ⟨rfl, hb2⟩; have hbx : Below wr.heap.size wr v2 := below_step (by go_grown) hb2; have D2 : Hid (NlSt w v2 b2 (.slice aV T.length cV) (.slice aX X.length cX) (.slice aY Y.length cY) T X Y) := D.out.next hbx; have j1 := (below_cells hbx _ _ hbTr).trans x1; have j3 := (below_cells hbx _ _ hbTr).trans x3; have kc := below_cells hb2; have kf := below_frozens hb2; have zB := hb2.size; (try simp at zB); (try (have y1 : wr.heap.size < v2.heap.size := (by omega)))))
        all_goals (repeat go_step)
        all_goals go_meet
        all_goals first | exact a8_alloc D2.out hbx.size (r, u, 1000000000 * u, at') true | exact a8_set (u0 := .int .i64 0) (u1 := .int .i64 0) (u2 := .int .i64 0) (u3 := .int .i64 0) D2.out (Nat.le_refl _) (r, u, 1000000000 * u, at') true (by go_simp) (by go_simp) (by go_simp) (by go_simp) (by omega) (by omega) oT1 oX1 oY1
      case rest =>
        clear D hf1 z2 oT1 oX1 oY1 hbw nW hbTr
        obtain ⟨b8, fl, rfl, rfl, d, cb, hl8⟩ := hcut
        have D : Hid (NlSt w wc b2 (.slice aV T.length cV) (.slice aX X.length cX) (.slice aY Y.length cY) T X Y) := d
        have CB : Hid (Cells wc [(b8, 0, .int .i64 r), (b8, 1, .int .i64 u), (b8, 2, .int .i64 (1000000000 * u)), (b8, 3, .int .i64 at')]) := cb
        have hb8 : b8 < wc.heap.size := cb.1.1
        clear d cb
        have hbw := D.out.kept.hb
        have z2 := D.out.sz
        obtain ⟨_, x1', x2', x3'⟩ := hT.cells hbw k hlt
        have xx2 : wc.cell? ⟨bT, oT + k * 4 + 2, none⟩ = some (.int .i64 c) := by rw [HT.out] at x2'; exact x2'
        have xx3 : wc.cell? ⟨bT, oT + k * 4 + 3, none⟩ = some (.int .i64 u) := by rw [HT.out] at x3'; exact x3'
        clear x0 x1 x2 x3 x1' x2' x3'
        have oT1 : (Value.slice aV T.length cV).ownBlock ≠ some wc.heap.size := fun e => by have := (D.out.rT.lt _ e).2; omega
        have oX1 : (Value.slice aX X.length cX).ownBlock ≠ some wc.heap.size := fun e => by have := (D.out.rO.lt _ e).2; omega
        have oY1 : (Value.slice aY Y.length cY).ownBlock ≠ some wc.heap.size := fun e => by have := (D.out.rP.lt _ e).2; omega
        have hbTr : bT < wc.heap.size := Nat.lt_of_lt_of_le hbT hbw.size
        have nW : wc.heap.size ≠ bT := by omega
        have oXg : ∀ g, (Value.slice aX X.length cX).ownBlock = some g → g < wc.heap.size := fun g e => (D.out.rO.lt g e).2
        have oYg : ∀ g, (Value.slice aY Y.length cY).ownBlock = some g → g < wc.heap.size := fun g e => (D.out.rP.lt g e).2
        have z2g := z2
        go_upto_region 8 with (fail)
        go_cut [10, 11] from 46 to 60 (fun s f wd => A8 w b2 (.slice aV T.length cV) (.slice aX X.length cX) (.slice aY Y.length cY) T X Y (c, u, 1000000000 * u, at') wc.heap.size s f wd ∧ Cells wd [(b8, 0, .int .i64 r), (b8, 1, .int .i64 u), (b8, 2, .int .i64 (1000000000 * u)), (b8, 3, .int .i64 at')])
        case first =>
          go_region_held3 (fun w' => w'.cell? ⟨bT, oT + k * 4 + 2, none⟩ = some (.int .i64 c) ∧ w'.cell? ⟨bT, oT + k * 4 + 3, none⟩ = some (.int .i64 u)) (first | go_keep | exact ⟨(set_far nW).trans ((set_far nW).trans ((set_far nW).trans ((set_far nW).trans j2))), (set_far nW).trans ((set_far nW).trans ((set_far nW).trans ((set_far nW).trans j3)))⟩)
            (first | (go_at_call 81; refine (hf2 _).mono ?_; rintro e v2 ⟨rfl, hb2⟩; have hbx : Below wc.heap.size wc v2 := below_step (by go_grown) hb2; have D2 : Hid (NlSt w v2 b2 (.slice aV T.length cV) (.slice aX X.length cX) (.slice aY Y.length cY) T X Y) := D.out.next hbx; have j2 := (below_cells hbx _ _ hbTr).trans xx2; have j3 := (below_cells hbx _ _ hbTr).trans xx3; have kc := below_cells hb2; have kf := below_frozens hb2; have zB := hb2.size; (try simp at zB); (try (have y1 : wc.heap.size < v2.heap.size := (by omega)))))
          all_goals (repeat go_step)
          all_goals go_meet
          all_goals first | exact ⟨a8_alloc D2.out hbx.size (c, u, 1000000000 * u, at') true, (CB.out.next hbx).next (new_below _ _)⟩ | exact ⟨a8_set (u0 := .int .i64 0) (u1 := .int .i64 0) (u2 := .int .i64 0) (u3 := .int .i64 0) D2.out (Nat.le_refl _) (c, u, 1000000000 * u, at') true (by go_simp) (by go_simp) (by go_simp) (by go_simp) (by omega) (by omega) oT1 oX1 oY1, cells_side (CB.out.next hbx) (c, u, 1000000000 * u, at') (by omega)⟩
        case rest =>
          obtain ⟨⟨b10, fl2, rfl, rfl, d, cb2, hl10⟩, cb1⟩ := hcut
          clear D CB hf2 z2 oT1 oX1 oY1 hbw nW hbTr xx2 xx3
          have D : Hid (NlSt w wc b2 (.slice aV T.length cV) (.slice aX X.length cX) (.slice aY Y.length cY) T X Y) := d
          have C1 : Hid (Cells wc [(b8, 0, .int .i64 r), (b8, 1, .int .i64 u), (b8, 2, .int .i64 (1000000000 * u)), (b8, 3, .int .i64 at')]) := cb1
          have C2 : Hid (Cells wc [(b10, 0, .int .i64 c), (b10, 1, .int .i64 u), (b10, 2, .int .i64 (1000000000 * u)), (b10, 3, .int .i64 at')]) := cb2
          have hb10 : b10 < wc.heap.size := cb2.1.1
          have hb8' : b8 < wc.heap.size := cb1.1.1
          clear d cb1 cb2
          have nX10 : (Value.slice aX X.length cX).ownBlock ≠ some b10 := fun e => by have := oXg b10 e; omega
          have n210 : b10 ≠ b2 := by omega
          have hlX : X.length ≤ 30 := by rw [HX.out, List.length_map, List.length_take]; omega
          have hlY : Y.length ≤ 30 := by rw [HY.out, List.length_map, List.length_take]; omega
          have z3 := D.out.sz
          have hws := D.out.kept.hb.size
          have ⟨⟨_, q0⟩, ⟨_, q1⟩, ⟨_, q2⟩, ⟨_, q3⟩, ⟨_, q4⟩, ⟨_, q5⟩, _⟩ := D.out.kept.cells
          have ⟨⟨_, p0⟩, ⟨_, p1⟩, ⟨_, p2⟩, ⟨_, p3⟩, _⟩ := C1.out
          have DA : Hid (NlSt w (wc.alloc (.cells #[.int .i64 r, .int .i64 u, .int .i64 (1000000000 * u), .int .i64 at'] 57)) b2 (.slice aV T.length cV) (.slice aX X.length cX) (.slice aY Y.length cY) T X Y) := D.out.next (new_below _ _)
          go_upto_region 10 with (at_builtin; refine wpList_append_two _ rfl _ _ 33 rfl (w.heap.size + 1) 57 iB _ 4 32 Try.underlying33 hiB zB0 zB1 zB2 rfl (by decide) _ _ _ rfl DA.out.rO ⟨wc.heap.size, 0, none⟩ 1 1 [.int .i64 r, .int .i64 u, .int .i64 (1000000000 * u), .int .i64 at'] rfl rfl ?m1 ?m2 ?m3 ?m4 ?m5 ?m6 ?m7; rotate_left 6; intro v' w5 ho hgr hbl; obtain ⟨gN, cN, rfl, _, _⟩ := own_someC ho (Nat.le_add_left 1 _); have KK := DA.out.keeps hgr (fun g e => (DA.out.rO.lt g e).1) DA.out.nO; have ⟨_, _, _, _, ⟨_, s4⟩, _⟩ := KK.cells; have sF := (KK.free b2 (List.mem_cons_of_mem _ (List.mem_singleton.2 rfl))).2; clear KK)
          case m1 => exact four_newsC (by go_simp) (by go_simp) (by go_simp) (by go_simp)
          case m2 => exact flatQ_cell [(r, u, 1000000000 * u, at')]
          case m3 => unfold maxLen; omega
          case m4 => omega
          case m5 => have := DA.out.sz; have := DA.out.lo; omega
          case m6 => omega
          have D9 : Hid (NlSt w (w5.setCell ⟨b2, 1, none⟩ (.slice (some ⟨gN, 0, none⟩) (X.length + 1) cN)) b2 (.slice aV T.length cV) (.slice (some ⟨gN, 0, none⟩) (X.length + 1) cN) (.slice aY Y.length cY) T (X ++ [(r, u, 1000000000 * u, at')]) Y) := DA.out.appO (x := (r, u, 1000000000 * u, at')) hgr ho hbl
          have C5 : Cells w5 [(b10, 0, .int .i64 c), (b10, 1, .int .i64 u), (b10, 2, .int .i64 (1000000000 * u)), (b10, 3, .int .i64 at')] := by
            refine Cells.onlyO (OnlyO.of_grown hgr) (fun x hx e => ?_) (C2.out.next (new_below _ _))
            simp only [List.mem_cons, List.not_mem_nil, or_false] at hx
            rcases hx with rfl | rfl | rfl | rfl <;> exact nX10 e
          have C6 : Hid (Cells (w5.setCell ⟨b2, 1, none⟩ (.slice (some ⟨gN, 0, none⟩) (X.length + 1) cN)) [(b10, 0, .int .i64 c), (b10, 1, .int .i64 u), (b10, 2, .int .i64 (1000000000 * u)), (b10, 3, .int .i64 at')]) := by
            refine Cells.onlyO (OnlyO.of_grown (grown_set w5 b2 1 (.slice (some ⟨gN, 0, none⟩) (X.length + 1) cN))) (fun x hx e => ?_) C5
            have e1 : b2 = x.1 := Option.some.inj e
            simp only [List.mem_cons, List.not_mem_nil, or_false] at hx
            rcases hx with rfl | rfl | rfl | rfl <;> exact n210 e1.symm
          obtain ⟨v9, hv9⟩ : ∃ v, w5.setCell ⟨b2, 1, none⟩ (.slice (some ⟨gN, 0, none⟩) (X.length + 1) cN) = v := ⟨_, rfl⟩
          rw [hv9] at D9 C6 ⊢
          clear hv9 C5 C1 C2 DA D ho hgr hbl q0 q1 q2 q3 q4 q5 p0 p1 p2 p3 s4 sF z3 hws
          have z3 := D9.out.sz
          have hws := D9.out.kept.hb.size
          have hb10' : b10 < v9.heap.size := C6.out.1.1
          have ⟨⟨_, q0⟩, ⟨_, q1⟩, ⟨_, q2⟩, ⟨_, q3⟩, ⟨_, q4⟩, ⟨_, q5⟩, _⟩ := D9.out.kept.cells
          have ⟨⟨_, p0⟩, ⟨_, p1⟩, ⟨_, p2⟩, ⟨_, p3⟩, _⟩ := C6.out
          have DB : Hid (NlSt w (v9.alloc (.cells #[.int .i64 c, .int .i64 u, .int .i64 (1000000000 * u), .int .i64 at'] 57)) b2 (.slice aV T.length cV) (.slice (some ⟨gN, 0, none⟩) (X.length + 1) cN) (.slice aY Y.length cY) T (X ++ [(r, u, 1000000000 * u, at')]) Y) := D9.out.next (new_below _ _)
          go_wp2_with (at_builtin; refine wpList_append_two _ rfl _ _ 33 rfl (w.heap.size + 1) 57 iB _ 4 32 Try.underlying33 hiB zB0 zB1 zB2 rfl (by decide) _ _ _ rfl DB.out.rP ⟨v9.heap.size, 0, none⟩ 1 1 [.int .i64 c, .int .i64 u, .int .i64 (1000000000 * u), .int .i64 at'] rfl rfl ?p1 ?p2 ?p3 ?p4 ?p5 ?p6 ?p7; rotate_left 6; intro v' w6 ho hgr hbl; obtain ⟨gM, cM, rfl, _, _⟩ := own_someC ho (Nat.le_add_left 1 _); have KK := DB.out.keeps hgr (fun g e => (DB.out.rP.lt g e).1) DB.out.nP; have ⟨_, _, _, _, _, ⟨_, s5⟩, _⟩ := KK.cells; have sF := (KK.free b2 (List.mem_cons_of_mem _ (List.mem_singleton.2 rfl))).2; clear KK)
          case p1 => exact four_newsC (by go_simp) (by go_simp) (by go_simp) (by go_simp)
          case p2 => exact flatQ_cell [(c, u, 1000000000 * u, at')]
          case p3 => unfold maxLen; omega
          case p4 => omega
          case p5 => have := DB.out.sz; have := DB.out.lo; omega
          case p6 => omega
          have D10 := DB.out.appP (x := (c, u, 1000000000 * u, at')) hgr ho hbl
          go_roundw
          case rel => exact ⟨k + 1, X ++ [(r, u, 1000000000 * u, at')], Y ++ [(c, u, 1000000000 * u, at')], some ⟨gN, 0, none⟩, cN, some ⟨gM, 0, none⟩, cM, by go_num, by omega, HS1.out.symm, HS2.out.symm, (by rw [List.length_append, List.length_append]; exact D10)⟩
          case measure => first | (simp [intOf]; done) | (simp [intOf]; omega)
    · have e : k = T.length := by omega
      subst e
      have HEX : Hid (X = T.map (ownFull at')) := by rw [HX.out, List.take_length]; exact rfl
      have HEY : Hid (Y = T.map (topFull at')) := by rw [HY.out, List.take_length]; exact rfl
      have ⟨⟨_, q0⟩, ⟨_, q1⟩, ⟨_, q2⟩, ⟨_, q3⟩, ⟨_, q4⟩, ⟨_, q5⟩, _⟩ := D.out.kept.cells
      have fr := (D.out.kept.free w.heap.size (List.mem_cons_self ..)).2
      have n1 : w.heap.size ≠ b2 := by have := D.out.lo; omega
      go_wp2
      refine bodyPost_ret (results_two rfl _ _ _ [.slice aV T.length cV, .slice aX X.length cX, .slice aY Y.length cY] rfl (set_three (u0 := .slice none 0 0) (u1 := .slice none 0 0) (u2 := .slice none 0 0) _ _ _ q0 q1 q2) Try.underlying35 rfl (by kernel_rfl)) rfl ?_
      have hfin := nl_fin D.out (a := .slice aV T.length cV) (b := .slice aX X.length cX) (c := .slice aY Y.length cY)
      rw [← HEX.out, ← HEY.out]
      exact ⟨_, _, _, _, _, _, _, _, _, rfl, hfin.1, hfin.2⟩
theorem specNewLend_any {w : World} {aT : Option Addr} (cT : Nat) {T : List Q4} (at' : Int) (hT : Quad w.heap.size w aT T) :
    Calls Try.prog 40 #[.slice aT T.length cT, .int .i64 at'] w (NewPost w (newT T at') (newO T at') (newP T at') (newB_LendMath T at')) := by
  cases h : newB_LendMath T at'
  · have e : newT T at' = [] ∧ newO T at' = [] ∧ newP T at' = [] := by unfold newT newO newP; rw [h]; exact ⟨rfl, rfl, rfl⟩
    rw [e.1, e.2.1, e.2.2]
    exact specNewLend_no cT at' hT h
  · have e : newT T at' = T ∧ newO T at' = T.map (ownFull at') ∧ newP T at' = T.map (topFull at') := by unfold newT newO newP; rw [h]; exact ⟨rfl, rfl, rfl⟩
    rw [e.1, e.2.1, e.2.2]
    exact specNewLend_yes cT at' hT h
end Go.Proofs.Ytibfclfidaofkas
