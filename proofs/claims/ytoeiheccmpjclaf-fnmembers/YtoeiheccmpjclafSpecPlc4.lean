/- What spec's Join answers. -/
import Derived.Test.YtoeiheccmpjclafSpecPlc3
import Derived.Test.YtoeiheccmpjclafGrpC
namespace Go.Proofs.Ytoeiheccmpjclaf
open Go.ChangeShapes Go.WideShapes Go.ChangeAt Go.RowKit
set_option maxRecDepth 100000
set_option linter.unusedVariables false
set_option linter.unusedSimpArgs false

def hasI (id : Int) (xs : List Int) : Bool := decide (id ∈ xs)
set_option maxHeartbeats 4000000 in
theorem has_any {wd fl id : Int} {w : World} {a : Option Addr} (cap : Nat) {xs : List Int} (hl : xs.length ≤ 50) (smp : ISmp w.heap.size w a xs) : Calls Try.prog 51 #[.agg #[.int .i64 wd, .int .i64 fl, .slice a xs.length cap], .int .i64 id] w fun e w' => e = .returned (.bool (hasI id xs)) ∧ Below w.heap.size w w' := by
  obtain ⟨f, hf⟩ : ∃ f, hasI id xs = f := ⟨_, rfl⟩
  rw [hf]
  go_enter Try.func51, Try.ntmps51
  go_upto_region 1 with (fail)
  obtain ⟨x, hx⟩ : ∃ x, x = w.alloc (.cells #[.int .i64 wd, .int .i64 fl, .slice a xs.length cap] 37) := ⟨_, rfl⟩
  rw [← hx]
  have hbx : Below w.heap.size w x := by rw [hx]; go_grown
  have p2 : x.cell? ⟨w.heap.size, 2, none⟩ = some (.slice a xs.length cap) := by rw [hx]; go_simp
  clear hx
  go_wp2
  go_loop [5] (fun i => ∃ (k : Nat), i = .int .i64 k ∧ k ≤ xs.length ∧ (∀ j (h : j < xs.length), j < k → xs[j] ≠ id)) (fun i => xs.length - (intOf i).toNat)
  case atStart => exact ⟨0, rfl, by omega, fun j h hk => by omega⟩
  case round =>
    obtain ⟨k, rfl, hk, hall⟩ := hrel
    have HA : Hid (∀ j (h : j < xs.length), j < k → xs[j] ≠ id) := hall
    clear hall
    by_cases hlt : k < xs.length
    · have hlt' : (k : Int) < (xs.length : Int) := by omega
      obtain ⟨b, off, rfl, hb, c0⟩ := smp.at hbx k hlt
      obtain ⟨y, hy⟩ : ∃ y, xs[k] = y := ⟨_, rfl⟩
      rw [hy] at c0
      by_cases he : y = id
      · obtain rfl : f = true := by
          rw [← hf]
          exact decide_eq_true (by rw [← he, ← hy]; exact List.getElem_mem hlt)
        subst he
        clear hy hf
        go_wp2
        go_ret
        exact ⟨rfl, hbx⟩
      · have he' : (y == id) = false := beq_eq_false_iff_ne.2 he
        have HN : Hid (∀ j (h : j < xs.length), j < k + 1 → xs[j] ≠ id) := fun j h hj => by
          by_cases e : j = k
          · subst e
            rw [hy]
            exact he
          · exact HA.out j h (by omega)
        clear hy
        go_wp2
        go_round
        case rel => exact ⟨k + 1, by go_num, by omega, HN.out⟩
        case measure => first | (simp [intOf]; done) | (simp [intOf]; omega)
    · have e : k = xs.length := by omega
      subst e
      obtain rfl : f = false := by
        rw [← hf]
        refine decide_eq_false (fun h => ?_)
        obtain ⟨j, hj, e⟩ := List.mem_iff_getElem.1 h
        exact HA.out j hj hj e
      go_wp2
      go_ret
      exact ⟨rfl, hbx⟩
theorem has_is {wd fl id : Int} {w : World} {a : Option Addr} (cap : Nat) {xs : List Int} {f : Bool} (hf : hasI id xs = f) (hl : xs.length ≤ 50) (smp : ISmp w.heap.size w a xs) : Calls Try.prog 51 #[.agg #[.int .i64 wd, .int .i64 fl, .slice a xs.length cap], .int .i64 id] w fun e w' => e = .returned (.bool f) ∧ Below w.heap.size w w' := by subst hf; exact has_any cap hl smp
/-- A Place that is made anew beside one that came in: what a walk keeps of them. -/
structure JK (w : World) (q : Nat) (wd fl f1 : Int) (a : Option Addr) (xs : List Int) (cap : Nat) (wr : World) (v : Value) : Prop where
  p : Qc wr w.heap.size wd fl (.slice a xs.length cap)
  r : Qc wr (w.heap.size + 1) 0 0 (.slice none 0 0)
  o : Qc wr q wd f1 v
  rf : ∀ k : Nat, wr.frozen? ⟨w.heap.size + 1, k, none⟩ = false
  of : ∀ k : Nat, wr.frozen? ⟨q, k, none⟩ = false
  hb : Below w.heap.size w wr
  wq : w.heap.size + 1 < q
theorem JK.onlyO {w : World} {q : Nat} {wd fl f1 : Int} {a : Option Addr} {xs : List Int} {cap : Nat} {wr wx : World} {v : Value} {o : Option Nat} (j : JK w q wd fl f1 a xs cap wr v) (ho : OnlyO o wr wx) (hq : ∀ g, o = some g → q < g) : JK w q wd fl f1 a xs cap wx v :=
  have n0 : o ≠ some w.heap.size := fun e => by have := hq _ e; have := j.wq; omega
  have n1 : o ≠ some (w.heap.size + 1) := fun e => by have := hq _ e; have := j.wq; omega
  have n2 : o ≠ some q := fun e => by have := hq _ e; omega
  ⟨j.p.onlyO ho n0, j.r.onlyO ho n1, j.o.onlyO ho n2, fun k => (ho.frozen (by exact j.r.z) (by exact n1)).trans (j.rf k), fun k => (ho.frozen (by exact j.o.z) (by exact n2)).trans (j.of k), j.hb.trans (ho.below (fun g e => by have := hq g e; have := j.wq; omega) j.hb.size), j.wq⟩
theorem JK.next {w : World} {q : Nat} {wd fl f1 : Int} {a : Option Addr} {xs : List Int} {cap : Nat} {wr wx : World} {v : Value} (j : JK w q wd fl f1 a xs cap wr v) (hb : Below wr.heap.size wr wx) : JK w q wd fl f1 a xs cap wx v := j.onlyO (o := none) (OnlyO.of_below hb) (fun g e => by cases e)
structure JSt (w : World) (q : Nat) (wd fl f1 : Int) (a : Option Addr) (xs : List Int) (cap : Nat) (wr : World) (v : Value) (n : Nat) (ys : List Int) : Prop where
  k : JK w q wd fl f1 a xs cap wr v
  own : wr.ownsRow (q + 1) 2 1 v n (flatI ys)
theorem JSt.o {w : World} {q : Nat} {wd fl f1 : Int} {a : Option Addr} {xs : List Int} {cap : Nat} {wr : World} {v : Value} {n : Nat} {ys : List Int} (j : JSt w q wd fl f1 a xs cap wr v n ys) : Qc wr q wd f1 v := j.k.o
theorem JSt.wq {w : World} {q : Nat} {wd fl f1 : Int} {a : Option Addr} {xs : List Int} {cap : Nat} {wr : World} {v : Value} {n : Nat} {ys : List Int} (j : JSt w q wd fl f1 a xs cap wr v n ys) : w.heap.size + 1 < q := j.k.wq
theorem JSt.next {w : World} {q : Nat} {wd fl f1 : Int} {a : Option Addr} {xs : List Int} {cap : Nat} {wr wx : World} {v : Value} {n : Nat} {ys : List Int} (j : JSt w q wd fl f1 a xs cap wr v n ys) (hb : Below wr.heap.size wr wx) : JSt w q wd fl f1 a xs cap wx v n ys := ⟨j.k.next hb, row_next j.own hb⟩
theorem JK.put {w : World} {q : Nat} {wd fl f1 : Int} {a : Option Addr} {xs : List Int} {cap : Nat} {wx : World} {v v1 : Value} {n : Nat} {ys : List Int} (j : JK w q wd fl f1 a xs cap wx v) (own : wx.ownsRow (q + 1) 2 1 v1 n (flatI ys)) : JSt w q wd fl f1 a xs cap (wx.setCell ⟨q, 2, none⟩ v1) v1 n ys := by
  have ho : Only q wx (wx.setCell ⟨q, 2, none⟩ v1) := (Only.refl _ wx).setCell (p := ⟨q, 2, none⟩) rfl _
  have n0 : w.heap.size ≠ q := by have := j.wq; omega
  have n1 : w.heap.size + 1 ≠ q := by have := j.wq; omega
  refine ⟨⟨j.p.onlyO (OnlyO.of_only ho) (fun e => n0 (Option.some.inj e).symm), j.r.onlyO (OnlyO.of_only ho) (fun e => n1 (Option.some.inj e).symm), ⟨by simpa using j.o.z, (set_other4 (by decide)).trans j.o.c0, (set_other4 (by decide)).trans j.o.c1, set_same4 _ j.o.c2⟩, fun k => by simpa using j.rf k, fun k => by simpa using j.of k, j.hb.trans (ho.below (by have := j.wq; omega) j.hb.size), j.wq⟩, row_set own (Nat.lt_succ_self _)⟩
/-- An Id put in order. -/
def insI (xs : List Int) (id : Int) : List Int := xs.takeWhile (fun y => decide (y < id)) ++ id :: xs.dropWhile (fun y => decide (y < id))
theorem insI_at {xs : List Int} {id : Int} {k : Nat} (hk : k ≤ xs.length) (h1 : ∀ j (hj : j < xs.length), j < k → xs[j] < id) (h2 : ∀ (h : k < xs.length), ¬ xs[k] < id) : insI xs id = xs.take k ++ [id] ++ xs.drop k := by
  have key : ∀ (L : List Int) (k : Nat), k ≤ L.length → (∀ j (hj : j < L.length), j < k → L[j] < id) → (∀ (h : k < L.length), ¬ L[k] < id) → (L.takeWhile fun y => decide (y < id)) = L.take k ∧ (L.dropWhile fun y => decide (y < id)) = L.drop k := by
    intro L
    induction L with
    | nil => intro k hk _ _; obtain rfl : k = 0 := by simpa using hk
             exact ⟨rfl, rfl⟩
    | cons y L ih =>
      intro k hk a b
      cases k with
      | zero =>
        have hy : ¬ y < id := b (by simp)
        simp [hy]
      | succ k =>
        have hy : y < id := a 0 (by simp) (by omega)
        obtain ⟨e1, e2⟩ := ih k (by simpa using hk) (fun j hj hjk => a (j + 1) (by simpa using hj) (by omega)) (fun h => b (by simpa using h))
        simp [hy, e1, e2]
  obtain ⟨e1, e2⟩ := key xs k hk h1 h2
  unfold insI
  rw [e1, e2]
  simp
theorem own_intsN {w : World} {base n : Nat} {v : Value} {xs : List Int} {t : TypeId} (e : n = xs.length) (h : w.ownsRow base t 1 v n (flatI xs)) : IV w base v xs := by
  subst e
  exact own_ints h
theorem sliceI_run {a : Option Addr} {n cap k : Nat} (hk : (k : Int) ≤ (n : Int)) (w : World) : (Instr.sliceAt 35 (.slice a n cap) (some (.int .i64 (k : Int))) none none).run Try.prog w = .ok (.slice (if cap = k then a else a.map (·.add k)) (n - k) (cap - k)) w := by
  have h0 : (0 : Int) ≤ (k : Int) := by omega
  have hk' : k ≤ n := by omega
  have hs : (sizeOf 2).run Try.prog w = .ok 1 w := by
    obtain ⟨i0, hi, _, hz1, _⟩ := info_parts info_i64
    simp [sizeOf, typeInfo, hi, hz1]
  simp [Instr.sliceAt, Instr.slice, Instr.sliceBounds, Instr.sliceBound, asIntOf, run_underlying Try.underlying35, h0, hk', hs]
theorem smp_drop {B : Nat} {w : World} {a : Option Addr} {xs : List Int} {cap k : Nat} (h : ISmp B w a xs) (hk : k ≤ xs.length) (hc : xs.length ≤ cap) : ISmp B w (if cap = k then a else a.map (·.add k)) (xs.drop k) := by
  intro i hi
  rw [List.length_drop] at hi
  obtain ⟨b, off, e, hb, c⟩ := h (k + i) (by omega)
  subst e
  rw [if_neg (by omega)]
  refine ⟨b, off + k, ?_, hb, ?_⟩
  · show some ((⟨b, off, none⟩ : Addr).add k) = _
    congr 1
    unfold Addr.add
    split <;> simp_all
  · rw [Nat.add_assoc, c, List.getElem_drop]
theorem wp_append_smp {P : Program} {w : World} {o : Oper} {a : Act} {K : Act → World → Prop} {Q : Exit → Act → World → Prop} (s x : Operand) (t : TypeId)
    (ho : o.op = .call { callee := .builtin .append, args := #[s, x], argTypes := #[t, t] })
    (base : Nat) (e : TypeId) (i : TypeInfo) (z : Value) (ht : P.underlying t = some (.slice e)) (hi : P.info? e = some i) (hz : i.zero = some z) (hsize : i.size = 1) (hby : i.bytes = 8) (hzs : z.cells.size = 1)
    (v : Value) (n : Nat) (xs : List Value) (hs : a.eval s = v) (hown : w.ownsRow base e 1 v n xs) (u : Option Addr) (c B : Nat) (ys : List Int) (hx : a.eval x = .slice u ys.length c) (hu : ISmp B w u ys) (hn : n + ys.length ≤ 1048576) (hbase : base ≤ w.heap.size)
    (h : ∀ v' w', w'.ownsRow base e 1 v' (n + ys.length) (xs ++ flatI ys) → w.grownBy w' v.ownBlock → K (a.put o.dst v') w') : o.wp P a w K Q := by
  cases u with
  | some ad =>
    exact wp_append_own w s x t ho base e i z 1 8 ht hi hz hsize hby hzs (by decide) v n xs hs hown ad ys.length c (flatI ys) hx (by rw [flatI_length, Nat.mul_one]) (ismp_news hu) (flatI_one ys) (by unfold maxLen; omega) (by omega) hbase (fun v' w' k1 k2 _ => h v' w' k1 k2)
  | none =>
    have hy : ys = [] := by
      cases ys with
      | nil => rfl
      | cons y r => obtain ⟨b, off, e, _⟩ := hu 0 (by simp); cases e
    subst hy
    have hrun : (Builtin.append_ #[t, t] o.type #[v, .slice none 0 c]).run P w = .ok v w := run_append_owned_none (P := P) (w := w) base t o.type e i 1 ht hi v n xs hown
    have k := h v w (by simpa [flatI] using hown) ⟨rfl, rfl, rfl, Nat.le_refl _, fun _ _ _ => rfl⟩
    rw [List.length_nil] at hx
    unfold Oper.wp
    simp [execOp, ho, resolve, invoke, builtin, hs, hx, hrun, Result.andThen]
    exact k
set_option maxHeartbeats 8000000 in
theorem l13Join_any {wd fl id : Int} {w : World} {a : Option Addr} (cap : Nat) {xs : List Int} (hl : xs.length ≤ 50) (hc : xs.length ≤ cap) (smp : ISmp w.heap.size w a xs) : Calls Try.prog 52 #[.agg #[.int .i64 wd, .int .i64 fl, .slice a xs.length cap], .int .i64 id] w (AnsP w (insI xs id) wd fl) := by
  obtain ⟨i0, hi, hz0, hz1, hz2⟩ := info_parts info_int
  go_enter Try.func52, Try.ntmps52
  go_upto_region 2 with (fail)
  obtain ⟨x, hx⟩ : ∃ x, x = ((w.alloc (.cells #[.int .i64 wd, .int .i64 fl, .slice a xs.length cap] 37)).alloc (.cells #[.int .i64 0, .int .i64 0, .slice none 0 0] 37)).alloc (.cells #[.int .i64 wd, .int .i64 fl, .slice none 0 0] 37) := ⟨_, rfl⟩
  rw [← hx]
  have hbx : Below w.heap.size w x := by rw [hx]; go_grown
  obtain ⟨q, hq⟩ : ∃ q, q = w.heap.size + 1 + 1 := ⟨_, rfl⟩
  rw [← hq]
  obtain ⟨f1, hf1⟩ : ∃ f1 : Int, f1 = fl := ⟨_, rfl⟩
  have J0 : Hid (JSt w q wd fl f1 a xs cap x (.slice none 0 0) 0 []) := by
    rw [hx, hq, hf1]
    exact ⟨⟨⟨by simp; omega, by go_simp, by go_simp, by go_simp⟩, ⟨by simp, by go_simp, by go_simp, by go_simp⟩, ⟨by simp, by go_simp, by go_simp, by go_simp⟩, fun k => by go_simp, fun k => by go_simp, by go_grown, by omega⟩, World.ownsRow_nil _ _ _ _⟩
  clear hx hq hbx
  have HF : Hid (f1 = fl) := hf1
  clear hf1
  go_wp2
  go_loopw [6] (fun i wr => ∃ (k : Nat) (ua : Option Addr) (uc : Nat), i = .int .i64 k ∧ k ≤ xs.length ∧ JSt w q wd fl f1 a xs cap wr (.slice ua k uc) k (xs.take k) ∧ (∀ j (hj : j < xs.length), j < k → xs[j] < id)) (fun i _ => xs.length - (intOf i).toNat)
  case atStart => exact ⟨0, none, 0, rfl, by omega, J0.out, fun j hj h => by omega⟩
  case round =>
    clear J0
    obtain ⟨n, ua, uc, rfl, hk, JS, hbef⟩ := hrel
    obtain ⟨k, hkn⟩ : ∃ k, k = n := ⟨_, rfl⟩
    obtain ⟨ys, hys⟩ : ∃ ys, ys = xs.take n := ⟨_, rfl⟩
    have HYS : Hid (ys = xs.take n) := hys
    rw [← hys] at JS
    have JJ : Hid (JSt w q wd fl f1 a xs cap wr (.slice ua n uc) n ys) := JS
    have hwr : Below w.heap.size w wr := JS.k.hb
    have hwq := JS.wq
    have hqz := JS.o.z
    have HB : Hid (∀ j (hj : j < xs.length), j < n → xs[j] < id) := hbef
    clear JS hys hbef
    have s0 : wr.cell? ⟨w.heap.size, 2, none⟩ = some (.slice a xs.length cap) := JJ.out.k.p.c2
    have s1 : wr.cell? ⟨q, 2, none⟩ = some (.slice ua n uc) := JJ.out.k.o.c2
    have hwz : w.heap.size < wr.heap.size := JJ.out.k.p.z
    by_cases hgo : ∃ h : n < xs.length, xs[n] < id
    · obtain ⟨hlt, hy0⟩ := hgo
      obtain ⟨y, hy⟩ : ∃ y, xs[n] = y := ⟨_, rfl⟩
      have HY : Hid (xs.take (n + 1) = ys ++ [y]) := by show _ = _; rw [List.take_succ_eq_append_getElem hlt, hy, HYS.out]
      have HN : Hid (∀ j (hj : j < xs.length), j < n + 1 → xs[j] < id) := fun j hj h => by
        by_cases e : j = n
        · subst e
          exact hy0
        · exact HB.out j hj (by omega)
      have hlt' : (n : Int) < (xs.length : Int) := by omega
      obtain ⟨b, off, rfl, hb, c0⟩ := smp.at hwr n hlt
      rw [hy] at c0 hy0
      rw [← hkn] at c0
      have hyd : decide (y < id) = true := decide_eq_true hy0
      have hn50 : n < 50 := by omega
      clear hy
      subst hkn
      go_wp2
      refine region_late (S := fun w' => w'.cell? ⟨w.heap.size, 2, none⟩ = some (.slice (some ⟨b, off, none⟩) xs.length cap) ∧ w'.cell? ⟨q, 2, none⟩ = some (.slice ua k uc) ∧ w'.cell? ⟨b, off + k, none⟩ = some (.int .i64 y)) 10 (by kernel_rfl) (⟨by go_simp, by go_simp, by go_simp⟩) (fun hS => ?_)
      refine late_take (i := 0) (v := ?_) rfl (by kernel_rfl) (by kernel_rfl) (by kernel_rfl) (by kernel_rfl) (fun _ _ _ h => h) (Or.inl ⟨by rfl, ?_⟩) (by assumption) ?_
      rotate_left 1
      · (intro w' hSw; (try dsimp only at hSw); go_simp; try with_reducible rfl)
      try simp only [Act.put, List.setIfInBounds_toArray, List.set_cons_zero, List.set_cons_succ, List.getElem_toArray, List.getElem_cons_succ, List.getElem_cons_zero]
      refine late_take (i := 1) (v := ?_) rfl (by kernel_rfl) (by kernel_rfl) (by kernel_rfl) (by kernel_rfl) (fun _ _ _ h => h) (Or.inl ⟨by rfl, ?_⟩) (by assumption) ?_
      rotate_left 1
      · (intro w' hSw; (try dsimp only at hSw); go_simp; try with_reducible rfl)
      try simp only [Act.put, List.setIfInBounds_toArray, List.set_cons_zero, List.set_cons_succ, List.getElem_toArray, List.getElem_cons_succ, List.getElem_cons_zero]
      refine late_take (i := 2) (v := ?_) rfl (by kernel_rfl) (by kernel_rfl) (by kernel_rfl) (by kernel_rfl) (fun _ _ _ h => h) (Or.inl ⟨by rfl, ?_⟩) (by assumption) ?_
      rotate_left 1
      · (intro w' hSw; (try dsimp only at hSw); go_simp; try with_reducible rfl)
      try simp only [Act.put, List.setIfInBounds_toArray, List.set_cons_zero, List.set_cons_succ, List.getElem_toArray, List.getElem_cons_succ, List.getElem_cons_zero]
      refine late_take (i := 3) (v := ?_) rfl (by kernel_rfl) (by kernel_rfl) (by kernel_rfl) (by kernel_rfl) (fun _ _ _ h => h) (Or.inl ⟨by rfl, ?_⟩) (by assumption) ?_
      rotate_left 1
      · (intro w' hSw; (try dsimp only at hSw); go_simp; try with_reducible rfl)
      try simp only [Act.put, List.setIfInBounds_toArray, List.set_cons_zero, List.set_cons_succ, List.getElem_toArray, List.getElem_cons_succ, List.getElem_cons_zero]
      refine late_take (i := 4) (v := ?_) rfl (by kernel_rfl) (by kernel_rfl) (by kernel_rfl) (by kernel_rfl) (fun _ _ _ h => h) (Or.inl ⟨by rfl, ?_⟩) (by assumption) ?_
      rotate_left 1
      · (intro w' hSw; (try dsimp only at hSw); go_simp; try with_reducible rfl)
      try simp only [Act.put, List.setIfInBounds_toArray, List.set_cons_zero, List.set_cons_succ, List.getElem_toArray, List.getElem_cons_succ, List.getElem_cons_zero]
      refine late_take (i := 5) (v := ?_) rfl (by kernel_rfl) (by kernel_rfl) (by kernel_rfl) (by kernel_rfl) (fun _ _ _ h => h) (Or.inl ⟨by rfl, ?_⟩) (by assumption) ?_
      rotate_left 1
      · (intro w' hSw; (try dsimp only at hSw); go_simp; try with_reducible rfl)
      try simp only [Act.put, List.setIfInBounds_toArray, List.set_cons_zero, List.set_cons_succ, List.getElem_toArray, List.getElem_cons_succ, List.getElem_cons_zero]
      refine late_take (i := 6) (v := ?_) rfl (by kernel_rfl) (by kernel_rfl) (by kernel_rfl) (by kernel_rfl) (fun _ _ _ h => h) (Or.inl ⟨by rfl, ?_⟩) (by assumption) ?_
      rotate_left 1
      · (intro w' hSw; (try dsimp only at hSw); go_simp; try with_reducible rfl)
      try simp only [Act.put, List.setIfInBounds_toArray, List.set_cons_zero, List.set_cons_succ, List.getElem_toArray, List.getElem_cons_succ, List.getElem_cons_zero]
      refine late_one (i := 7) (by kernel_rfl) rfl (fun K hK => ?_)
      go_simp
      refine hK.out _ _ (have k' := below_cells (w := wr) (w' := (wr.drew.alloc (.cells #[.int .i64 y] 2))) (by go_grown); ⟨(k' _ _ (by omega)).trans s0, (k' _ _ (by omega)).trans s1, (k' _ _ (by have := hwr.size; omega)).trans c0⟩) (fun hS => ?_)
      try simp only [Act.put, List.setIfInBounds_toArray, List.set_cons_zero, List.set_cons_succ, List.getElem_toArray, List.getElem_cons_succ, List.getElem_cons_zero]
      refine late_one (i := 8) (by kernel_rfl) rfl (fun K hK => ?_)
      rw [if_pos (by rfl)]
      refine wp_append_own _ _ _ 35 rfl (q + 1) 2 i0 _ 1 8 Try.underlying35 hi hz0 hz1 hz2 rfl (by decide) _ _ _ rfl (JJ.out.own.drew.alloc _) ⟨wr.heap.size, 0, none⟩ 1 1 [.int .i64 y] rfl rfl (one_news (by go_simp)) (fun u hu => by rw [List.mem_singleton] at hu; subst hu; rfl) (by unfold maxLen; omega) (by omega) (by have := JJ.out.o.z; simp; omega) ?_
      intro v1 wx hown1 hgr1 hnil1
      obtain ⟨a1, c1', rfl⟩ := own_slice hown1
      have hno : OnlyO (Value.slice ua k uc).ownBlock wr wx := OnlyO.trans (OnlyO.of_below (by go_grown)) (OnlyO.of_grown hgr1)
      have J1 := JJ.out.k.onlyO hno (fun g e' => by have := (JJ.out.own.lt g e').1; omega)
      have JF : Hid (JSt w q wd fl f1 (some ⟨b, off, none⟩) xs cap (wx.setCell ⟨q, 2, none⟩ (.slice a1 (k + 1) c1')) (.slice a1 (k + 1) c1') (k + 1) (ys ++ [y])) := JK.put J1 (by rw [flatI_append]; exact hown1)
      have hx1 := hno.size
      have s0x := J1.p.c2
      have s1x := J1.o.c2
      have s2x := J1.of
      refine hK.out _ _ ⟨s0x, s1x, (hno.cell (p := ⟨b, off + k, none⟩) (by show b < _; have := hwr.size; omega) (fun e' => by have h1 := (JJ.out.own.lt _ e').1; have h2 := JJ.out.wq; change q + 1 ≤ b at h1; omega)).trans c0⟩ (fun hS => ?_)
      try simp only [Act.put, List.setIfInBounds_toArray, List.set_cons_zero, List.set_cons_succ, List.getElem_toArray, List.getElem_cons_succ, List.getElem_cons_zero]
      refine late_take (i := 9) (v := ?_) rfl (by kernel_rfl) (by kernel_rfl) (by kernel_rfl) (by kernel_rfl) (fun _ _ _ h => h) (Or.inl ⟨by rfl, ?_⟩) (by assumption) ?_
      rotate_left 1
      · (intro w' hSw; (try dsimp only at hSw); go_simp; try with_reducible rfl)
      try simp only [Act.put, List.setIfInBounds_toArray, List.set_cons_zero, List.set_cons_succ, List.getElem_toArray, List.getElem_cons_succ, List.getElem_cons_zero]
      refine late_last (by kernel_rfl) rfl (by kernel_rfl) (fun K hK => ?_)
      go_simp
      refine hK.out _ _ ?_
      try simp only [Act.put, List.setIfInBounds_toArray, List.set_cons_zero, List.set_cons_succ, List.getElem_toArray, List.getElem_cons_succ, List.getElem_cons_zero]
      obtain ⟨x9, hx9⟩ : ∃ x, x = wx.setCell ⟨q, 2, none⟩ (.slice a1 (k + 1) c1') := ⟨_, rfl⟩
      rw [← hx9] at JF ⊢
      clear hx9
      go_wp2
      go_roundw
      case rel => exact ⟨k + 1, a1, c1', by go_num, by omega, by rw [HY.out]; exact JF.out, HN.out⟩
      case measure => first | (simp [intOf]; done) | (simp [intOf]; omega)
    · have HINS : Hid (insI xs id = ys ++ [id] ++ xs.drop n) := by
        show _ = _
        rw [HYS.out]
        exact insI_at hk HB.out (fun h hh => hgo ⟨h, hh⟩)
      have hsl := fun w => sliceI_run (a := a) (cap := cap) (show (n : Int) ≤ (xs.length : Int) by omega) w
      have HSL : Hid (∀ w, (Instr.sliceAt 35 (.slice a xs.length cap) (some (.int .i64 (n : Int))) none none).run Try.prog w = .ok (.slice (if cap = n then a else a.map (·.add n)) (xs.length - n) (cap - n)) w) := hsl
      clear hsl
      have HSM : Hid (∀ wx, Below w.heap.size w wx → ISmp w.heap.size wx (if cap = n then a else a.map (·.add n)) (xs.drop n)) := fun wx h => smp_drop (smp.mono h) hk hc
      obtain ⟨u, hu⟩ : ∃ u : Option Addr, (if cap = n then a else a.map (·.add n)) = u := ⟨_, rfl⟩
      rw [hu] at HSL HSM
      clear hu
      obtain ⟨zs, hzs⟩ : ∃ zs, zs = xs.drop n := ⟨_, rfl⟩
      have HZL : Hid (xs.length - n = zs.length) := by show _ = _; rw [hzs, List.length_drop]
      have hzl : n + 1 + zs.length ≤ 60 := by rw [hzs, List.length_drop]; omega
      rw [← hzs] at HSM HINS
      rw [HZL.out] at HSL
      have HIL : Hid ((insI xs id).length = n + 1 + zs.length) := by
        show _ = _
        rw [HINS.out, List.length_append, List.length_append, HYS.out, List.length_take]
        simp
        omega
      clear hzs
      by_cases hlt : n < xs.length
      · have hlt' : (n : Int) < (xs.length : Int) := by omega
        obtain ⟨b, off, rfl, hb, c0⟩ := smp.at hwr n hlt
        obtain ⟨y, hy⟩ : ∃ y, xs[n] = y := ⟨_, rfl⟩
        have hyd : decide (y < id) = false := decide_eq_false (fun h => hgo ⟨hlt, by rw [hy]; exact h⟩)
        rw [hy] at c0
        clear hy hgo
        go_upto_region 6 with (fail)
        refine region_late (S := fun w' => w'.cell? ⟨w.heap.size, 2, none⟩ = some (.slice (some ⟨b, off, none⟩) xs.length cap) ∧ w'.cell? ⟨q, 2, none⟩ = some (.slice ua n uc)) 13 (by kernel_rfl) (⟨by go_simp, by go_simp⟩) (fun hS => ?_)
        refine late_take (i := 0) (v := ?_) rfl (by kernel_rfl) (by kernel_rfl) (by kernel_rfl) (by kernel_rfl) (fun _ _ _ h => h) (Or.inl ⟨by rfl, ?_⟩) (by assumption) ?_
        rotate_left 1
        · (intro w' hSw; (try dsimp only at hSw); go_simp; try with_reducible rfl)
        try simp only [Act.put, List.setIfInBounds_toArray, List.set_cons_zero, List.set_cons_succ, List.getElem_toArray, List.getElem_cons_succ, List.getElem_cons_zero]
        refine late_take (i := 1) (v := ?_) rfl (by kernel_rfl) (by kernel_rfl) (by kernel_rfl) (by kernel_rfl) (fun _ _ _ h => h) (Or.inl ⟨by rfl, ?_⟩) (by assumption) ?_
        rotate_left 1
        · (intro w' hSw; (try dsimp only at hSw); go_simp; try with_reducible rfl)
        try simp only [Act.put, List.setIfInBounds_toArray, List.set_cons_zero, List.set_cons_succ, List.getElem_toArray, List.getElem_cons_succ, List.getElem_cons_zero]
        refine late_take (i := 2) (v := ?_) rfl (by kernel_rfl) (by kernel_rfl) (by kernel_rfl) (by kernel_rfl) (fun _ _ _ h => h) (Or.inl ⟨by rfl, ?_⟩) (by assumption) ?_
        rotate_left 1
        · (intro w' hSw; (try dsimp only at hSw); go_simp; try with_reducible rfl)
        try simp only [Act.put, List.setIfInBounds_toArray, List.set_cons_zero, List.set_cons_succ, List.getElem_toArray, List.getElem_cons_succ, List.getElem_cons_zero]
        refine late_take (i := 5) (v := ?_) rfl (by kernel_rfl) (by kernel_rfl) (by kernel_rfl) (by kernel_rfl) (fun _ _ _ h => h) (Or.inl ⟨by rfl, ?_⟩) (by assumption) ?_
        rotate_left 1
        · (intro w' hSw; (try dsimp only at hSw); go_simp; try with_reducible rfl)
        try simp only [Act.put, List.setIfInBounds_toArray, List.set_cons_zero, List.set_cons_succ, List.getElem_toArray, List.getElem_cons_succ, List.getElem_cons_zero]
        refine late_take (i := 6) (v := ?_) rfl (by kernel_rfl) (by kernel_rfl) (by kernel_rfl) (by kernel_rfl) (fun _ _ _ h => h) (Or.inl ⟨by rfl, ?_⟩) (by assumption) ?_
        rotate_left 1
        · (intro w' hSw; (try dsimp only at hSw); go_simp; try with_reducible rfl)
        try simp only [Act.put, List.setIfInBounds_toArray, List.set_cons_zero, List.set_cons_succ, List.getElem_toArray, List.getElem_cons_succ, List.getElem_cons_zero]
        refine late_take (i := 7) (v := ?_) rfl (by kernel_rfl) (by kernel_rfl) (by kernel_rfl) (by kernel_rfl) (fun _ _ _ h => h) (Or.inl ⟨by rfl, ?_⟩) (by assumption) ?_
        rotate_left 1
        · (intro w' hSw; (try dsimp only at hSw); go_simp; try with_reducible rfl)
        try simp only [Act.put, List.setIfInBounds_toArray, List.set_cons_zero, List.set_cons_succ, List.getElem_toArray, List.getElem_cons_succ, List.getElem_cons_zero]
        refine late_take (i := 8) (v := ?_) rfl (by kernel_rfl) (by kernel_rfl) (by kernel_rfl) (by kernel_rfl) (fun _ _ _ h => h) (Or.inl ⟨by rfl, ?_⟩) (by assumption) ?_
        rotate_left 1
        · (intro w' hSw; (try dsimp only at hSw); go_simp; try with_reducible rfl)
        try simp only [Act.put, List.setIfInBounds_toArray, List.set_cons_zero, List.set_cons_succ, List.getElem_toArray, List.getElem_cons_succ, List.getElem_cons_zero]
        refine late_take (i := 9) (v := ?_) rfl (by kernel_rfl) (by kernel_rfl) (by kernel_rfl) (by kernel_rfl) (fun _ _ _ h => h) (Or.inl ⟨by rfl, ?_⟩) (by assumption) ?_
        rotate_left 1
        · (intro w' hSw; (try dsimp only at hSw); go_simp; try with_reducible rfl)
        try simp only [Act.put, List.setIfInBounds_toArray, List.set_cons_zero, List.set_cons_succ, List.getElem_toArray, List.getElem_cons_succ, List.getElem_cons_zero]
        refine late_take (i := 10) (v := .slice u zs.length (cap - n)) rfl (by kernel_rfl) (by kernel_rfl) (by kernel_rfl) (by kernel_rfl) (fun _ _ _ h => h) (Or.inl ⟨by rfl, ?_⟩) (by assumption) ?_
        · (intro w' hSw; (try dsimp only at hSw); have h := HSL.out w'; simp [execOp, Act.eval, h, Result.andThen])
        try simp only [Act.put, List.setIfInBounds_toArray, List.set_cons_zero, List.set_cons_succ, List.getElem_toArray, List.getElem_cons_succ, List.getElem_cons_zero]
        refine late_one (i := 3) (by kernel_rfl) rfl (fun K hK => ?_)
        go_simp
        refine hK.out _ _ (have k' := below_cells (w := wr) (w' := (wr.drew.alloc (.cells #[.int .i64 id] 2))) (by go_grown); ⟨(k' _ _ (by omega)).trans s0, (k' _ _ (by omega)).trans s1⟩) (fun hS => ?_)
        try simp only [Act.put, List.setIfInBounds_toArray, List.set_cons_zero, List.set_cons_succ, List.getElem_toArray, List.getElem_cons_succ, List.getElem_cons_zero]
        refine late_one (i := 4) (by kernel_rfl) rfl (fun K hK => ?_)
        rw [if_pos (by rfl)]
        refine wp_append_own _ _ _ 35 rfl (q + 1) 2 i0 _ 1 8 Try.underlying35 hi hz0 hz1 hz2 rfl (by decide) _ _ _ rfl (JJ.out.own.drew.alloc _) ⟨wr.heap.size, 0, none⟩ 1 1 [.int .i64 id] rfl rfl (one_news (by go_simp)) (fun u hu => by rw [List.mem_singleton] at hu; subst hu; rfl) (by unfold maxLen; omega) (by omega) (by simp; omega) ?_
        intro v1 wx hown1 hgr1 hnil1
        obtain ⟨a1, c1', rfl⟩ := own_slice hown1
        have hno : OnlyO (Value.slice ua n uc).ownBlock wr wx := OnlyO.trans (OnlyO.of_below (by go_grown)) (OnlyO.of_grown hgr1)
        have J1 := JJ.out.k.onlyO hno (fun g e' => by have := (JJ.out.own.lt g e').1; omega)
        have hx1 := hno.size
        have s0x := J1.p.c2
        have s1x := J1.o.c2
        refine hK.out _ _ ⟨s0x, s1x⟩ (fun hS => ?_)
        try simp only [Act.put, List.setIfInBounds_toArray, List.set_cons_zero, List.set_cons_succ, List.getElem_toArray, List.getElem_cons_succ, List.getElem_cons_zero]
        refine late_one (i := 11) (by kernel_rfl) rfl (fun K hK => ?_)
        rw [if_pos (by rfl)]
        refine wp_append_smp _ _ 35 rfl (q + 1) 2 i0 _ Try.underlying35 hi hz0 hz1 hz2 rfl _ _ _ rfl hown1 u (cap - n) w.heap.size zs rfl (HSM.out _ J1.hb) (by omega) (by omega) ?_
        intro v2 wy hown2 hgr2
        obtain ⟨a2, c2', rfl⟩ := own_slice hown2
        have hno2 : OnlyO (Value.slice a1 (n + 1) c1').ownBlock wx wy := OnlyO.of_grown hgr2
        have J2 := J1.onlyO hno2 (fun g e' => by have := (hown1.lt g e').1; omega)
        have JF : Hid (JSt w q wd fl f1 ((some ⟨b, off, none⟩)) xs cap (wy.setCell ⟨q, 2, none⟩ (.slice a2 (n + 1 + zs.length) c2')) (.slice a2 (n + 1 + zs.length) c2') (n + 1 + zs.length) (insI xs id)) := JK.put J2 (by rw [HINS.out, flatI_append, flatI_append]; exact hown2)
        have s0y := J2.p.c2
        have s1y := J2.o.c2
        have s2y := J2.of
        have hqy := J2.o.z
        refine hK.out _ _ ⟨s0y, s1y⟩ (fun hS => ?_)
        try simp only [Act.put, List.setIfInBounds_toArray, List.set_cons_zero, List.set_cons_succ, List.getElem_toArray, List.getElem_cons_succ, List.getElem_cons_zero]
        refine late_take (i := 12) (v := ?_) rfl (by kernel_rfl) (by kernel_rfl) (by kernel_rfl) (by kernel_rfl) (fun _ _ _ h => h) (Or.inl ⟨by rfl, ?_⟩) (by assumption) ?_
        rotate_left 1
        · (intro w' hSw; (try dsimp only at hSw); go_simp; try with_reducible rfl)
        try simp only [Act.put, List.setIfInBounds_toArray, List.set_cons_zero, List.set_cons_succ, List.getElem_toArray, List.getElem_cons_succ, List.getElem_cons_zero]
        refine late_last (by kernel_rfl) rfl (by kernel_rfl) (fun K hK => ?_)
        go_simp
        refine hK.out _ _ ?_
        try simp only [Act.put, List.setIfInBounds_toArray, List.set_cons_zero, List.set_cons_succ, List.getElem_toArray, List.getElem_cons_succ, List.getElem_cons_zero]
        obtain ⟨x9, hx9⟩ : ∃ x, x = wy.setCell ⟨q, 2, none⟩ (.slice a2 (n + 1 + zs.length) c2') := ⟨_, rfl⟩
        rw [← hx9] at JF ⊢
        clear hx9
        have v0 := JF.out.k.r.c0
        have v1 := JF.out.k.r.c1
        have v2 := JF.out.k.r.c2
        have vz := JF.out.k.rf
        have o0 := JF.out.k.o.c0
        have o1 := JF.out.k.o.c1
        have o2 := JF.out.k.o.c2
        have hb9 := JF.out.k.hb
        have ow9 := JF.out.own
        have iv9 : IV x9 (q + 1) (.slice a2 (n + 1 + zs.length) c2') (insI xs id) := own_intsN HIL.out.symm ow9
        go_wp2
        obtain ⟨y9, ey, cs, fzy, sz, hbel, hon⟩ := over3 (.int .i64 wd) (.int .i64 f1) (.slice a2 (n + 1 + zs.length) c2') (w := x9) (g := w.heap.size + 1) v0 v1 v2
        rw [← ey]
        refine bodyPost_ret (results_one rfl _ _ _ [.int .i64 wd, .int .i64 f1, .slice a2 (n + 1 + zs.length) c2'] rfl cs Try.underlying37 rfl (by kernel_rfl)) rfl ?_
        rw [← HF.out]
        exact ⟨_, _, _, rfl, (iv9.onlyO (OnlyO.of_only hon) (fun g hg e => by have := (iv9.own hg).1; injection e with e; omega)).lower (by omega), hb9.trans (hbel _ (by omega))⟩
      · have hlt' : ¬ (n : Int) < (xs.length : Int) := by omega
        have hdl : decide ((n : Int) < (xs.length : Int)) = false := decide_eq_false hlt'
        clear hgo
        go_upto_region 6 with (fail)
        refine region_late (S := fun w' => w'.cell? ⟨w.heap.size, 2, none⟩ = some (.slice a xs.length cap) ∧ w'.cell? ⟨q, 2, none⟩ = some (.slice ua n uc)) 13 (by kernel_rfl) (⟨by go_simp, by go_simp⟩) (fun hS => ?_)
        refine late_take (i := 0) (v := ?_) rfl (by kernel_rfl) (by kernel_rfl) (by kernel_rfl) (by kernel_rfl) (fun _ _ _ h => h) (Or.inl ⟨by rfl, ?_⟩) (by assumption) ?_
        rotate_left 1
        · (intro w' hSw; (try dsimp only at hSw); go_simp; try with_reducible rfl)
        try simp only [Act.put, List.setIfInBounds_toArray, List.set_cons_zero, List.set_cons_succ, List.getElem_toArray, List.getElem_cons_succ, List.getElem_cons_zero]
        refine late_take (i := 1) (v := ?_) rfl (by kernel_rfl) (by kernel_rfl) (by kernel_rfl) (by kernel_rfl) (fun _ _ _ h => h) (Or.inl ⟨by rfl, ?_⟩) (by assumption) ?_
        rotate_left 1
        · (intro w' hSw; (try dsimp only at hSw); go_simp; try with_reducible rfl)
        try simp only [Act.put, List.setIfInBounds_toArray, List.set_cons_zero, List.set_cons_succ, List.getElem_toArray, List.getElem_cons_succ, List.getElem_cons_zero]
        refine late_take (i := 2) (v := ?_) rfl (by kernel_rfl) (by kernel_rfl) (by kernel_rfl) (by kernel_rfl) (fun _ _ _ h => h) (Or.inl ⟨by rfl, ?_⟩) (by assumption) ?_
        rotate_left 1
        · (intro w' hSw; (try dsimp only at hSw); go_simp; try with_reducible rfl)
        try simp only [Act.put, List.setIfInBounds_toArray, List.set_cons_zero, List.set_cons_succ, List.getElem_toArray, List.getElem_cons_succ, List.getElem_cons_zero]
        refine late_take (i := 5) (v := ?_) rfl (by kernel_rfl) (by kernel_rfl) (by kernel_rfl) (by kernel_rfl) (fun _ _ _ h => h) (Or.inl ⟨by rfl, ?_⟩) (by assumption) ?_
        rotate_left 1
        · (intro w' hSw; (try dsimp only at hSw); go_simp; try with_reducible rfl)
        try simp only [Act.put, List.setIfInBounds_toArray, List.set_cons_zero, List.set_cons_succ, List.getElem_toArray, List.getElem_cons_succ, List.getElem_cons_zero]
        refine late_take (i := 6) (v := ?_) rfl (by kernel_rfl) (by kernel_rfl) (by kernel_rfl) (by kernel_rfl) (fun _ _ _ h => h) (Or.inl ⟨by rfl, ?_⟩) (by assumption) ?_
        rotate_left 1
        · (intro w' hSw; (try dsimp only at hSw); go_simp; try with_reducible rfl)
        try simp only [Act.put, List.setIfInBounds_toArray, List.set_cons_zero, List.set_cons_succ, List.getElem_toArray, List.getElem_cons_succ, List.getElem_cons_zero]
        refine late_take (i := 7) (v := ?_) rfl (by kernel_rfl) (by kernel_rfl) (by kernel_rfl) (by kernel_rfl) (fun _ _ _ h => h) (Or.inl ⟨by rfl, ?_⟩) (by assumption) ?_
        rotate_left 1
        · (intro w' hSw; (try dsimp only at hSw); go_simp; try with_reducible rfl)
        try simp only [Act.put, List.setIfInBounds_toArray, List.set_cons_zero, List.set_cons_succ, List.getElem_toArray, List.getElem_cons_succ, List.getElem_cons_zero]
        refine late_take (i := 8) (v := ?_) rfl (by kernel_rfl) (by kernel_rfl) (by kernel_rfl) (by kernel_rfl) (fun _ _ _ h => h) (Or.inl ⟨by rfl, ?_⟩) (by assumption) ?_
        rotate_left 1
        · (intro w' hSw; (try dsimp only at hSw); go_simp; try with_reducible rfl)
        try simp only [Act.put, List.setIfInBounds_toArray, List.set_cons_zero, List.set_cons_succ, List.getElem_toArray, List.getElem_cons_succ, List.getElem_cons_zero]
        refine late_take (i := 9) (v := ?_) rfl (by kernel_rfl) (by kernel_rfl) (by kernel_rfl) (by kernel_rfl) (fun _ _ _ h => h) (Or.inl ⟨by rfl, ?_⟩) (by assumption) ?_
        rotate_left 1
        · (intro w' hSw; (try dsimp only at hSw); go_simp; try with_reducible rfl)
        try simp only [Act.put, List.setIfInBounds_toArray, List.set_cons_zero, List.set_cons_succ, List.getElem_toArray, List.getElem_cons_succ, List.getElem_cons_zero]
        refine late_take (i := 10) (v := .slice u zs.length (cap - n)) rfl (by kernel_rfl) (by kernel_rfl) (by kernel_rfl) (by kernel_rfl) (fun _ _ _ h => h) (Or.inl ⟨by rfl, ?_⟩) (by assumption) ?_
        · (intro w' hSw; (try dsimp only at hSw); have h := HSL.out w'; simp [execOp, Act.eval, h, Result.andThen])
        try simp only [Act.put, List.setIfInBounds_toArray, List.set_cons_zero, List.set_cons_succ, List.getElem_toArray, List.getElem_cons_succ, List.getElem_cons_zero]
        refine late_one (i := 3) (by kernel_rfl) rfl (fun K hK => ?_)
        go_simp
        refine hK.out _ _ (have k' := below_cells (w := wr) (w' := (wr.drew.alloc (.cells #[.int .i64 id] 2))) (by go_grown); ⟨(k' _ _ (by omega)).trans s0, (k' _ _ (by omega)).trans s1⟩) (fun hS => ?_)
        try simp only [Act.put, List.setIfInBounds_toArray, List.set_cons_zero, List.set_cons_succ, List.getElem_toArray, List.getElem_cons_succ, List.getElem_cons_zero]
        refine late_one (i := 4) (by kernel_rfl) rfl (fun K hK => ?_)
        rw [if_pos (by rfl)]
        refine wp_append_own _ _ _ 35 rfl (q + 1) 2 i0 _ 1 8 Try.underlying35 hi hz0 hz1 hz2 rfl (by decide) _ _ _ rfl (JJ.out.own.drew.alloc _) ⟨wr.heap.size, 0, none⟩ 1 1 [.int .i64 id] rfl rfl (one_news (by go_simp)) (fun u hu => by rw [List.mem_singleton] at hu; subst hu; rfl) (by unfold maxLen; omega) (by omega) (by simp; omega) ?_
        intro v1 wx hown1 hgr1 hnil1
        obtain ⟨a1, c1', rfl⟩ := own_slice hown1
        have hno : OnlyO (Value.slice ua n uc).ownBlock wr wx := OnlyO.trans (OnlyO.of_below (by go_grown)) (OnlyO.of_grown hgr1)
        have J1 := JJ.out.k.onlyO hno (fun g e' => by have := (JJ.out.own.lt g e').1; omega)
        have hx1 := hno.size
        have s0x := J1.p.c2
        have s1x := J1.o.c2
        refine hK.out _ _ ⟨s0x, s1x⟩ (fun hS => ?_)
        try simp only [Act.put, List.setIfInBounds_toArray, List.set_cons_zero, List.set_cons_succ, List.getElem_toArray, List.getElem_cons_succ, List.getElem_cons_zero]
        refine late_one (i := 11) (by kernel_rfl) rfl (fun K hK => ?_)
        rw [if_pos (by rfl)]
        refine wp_append_smp _ _ 35 rfl (q + 1) 2 i0 _ Try.underlying35 hi hz0 hz1 hz2 rfl _ _ _ rfl hown1 u (cap - n) w.heap.size zs rfl (HSM.out _ J1.hb) (by omega) (by omega) ?_
        intro v2 wy hown2 hgr2
        obtain ⟨a2, c2', rfl⟩ := own_slice hown2
        have hno2 : OnlyO (Value.slice a1 (n + 1) c1').ownBlock wx wy := OnlyO.of_grown hgr2
        have J2 := J1.onlyO hno2 (fun g e' => by have := (hown1.lt g e').1; omega)
        have JF : Hid (JSt w q wd fl f1 (a) xs cap (wy.setCell ⟨q, 2, none⟩ (.slice a2 (n + 1 + zs.length) c2')) (.slice a2 (n + 1 + zs.length) c2') (n + 1 + zs.length) (insI xs id)) := JK.put J2 (by rw [HINS.out, flatI_append, flatI_append]; exact hown2)
        have s0y := J2.p.c2
        have s1y := J2.o.c2
        have s2y := J2.of
        have hqy := J2.o.z
        refine hK.out _ _ ⟨s0y, s1y⟩ (fun hS => ?_)
        try simp only [Act.put, List.setIfInBounds_toArray, List.set_cons_zero, List.set_cons_succ, List.getElem_toArray, List.getElem_cons_succ, List.getElem_cons_zero]
        refine late_take (i := 12) (v := ?_) rfl (by kernel_rfl) (by kernel_rfl) (by kernel_rfl) (by kernel_rfl) (fun _ _ _ h => h) (Or.inl ⟨by rfl, ?_⟩) (by assumption) ?_
        rotate_left 1
        · (intro w' hSw; (try dsimp only at hSw); go_simp; try with_reducible rfl)
        try simp only [Act.put, List.setIfInBounds_toArray, List.set_cons_zero, List.set_cons_succ, List.getElem_toArray, List.getElem_cons_succ, List.getElem_cons_zero]
        refine late_last (by kernel_rfl) rfl (by kernel_rfl) (fun K hK => ?_)
        go_simp
        refine hK.out _ _ ?_
        try simp only [Act.put, List.setIfInBounds_toArray, List.set_cons_zero, List.set_cons_succ, List.getElem_toArray, List.getElem_cons_succ, List.getElem_cons_zero]
        obtain ⟨x9, hx9⟩ : ∃ x, x = wy.setCell ⟨q, 2, none⟩ (.slice a2 (n + 1 + zs.length) c2') := ⟨_, rfl⟩
        rw [← hx9] at JF ⊢
        clear hx9
        have v0 := JF.out.k.r.c0
        have v1 := JF.out.k.r.c1
        have v2 := JF.out.k.r.c2
        have vz := JF.out.k.rf
        have o0 := JF.out.k.o.c0
        have o1 := JF.out.k.o.c1
        have o2 := JF.out.k.o.c2
        have hb9 := JF.out.k.hb
        have ow9 := JF.out.own
        have iv9 : IV x9 (q + 1) (.slice a2 (n + 1 + zs.length) c2') (insI xs id) := own_intsN HIL.out.symm ow9
        go_wp2
        obtain ⟨y9, ey, cs, fzy, sz, hbel, hon⟩ := over3 (.int .i64 wd) (.int .i64 f1) (.slice a2 (n + 1 + zs.length) c2') (w := x9) (g := w.heap.size + 1) v0 v1 v2
        rw [← ey]
        refine bodyPost_ret (results_one rfl _ _ _ [.int .i64 wd, .int .i64 f1, .slice a2 (n + 1 + zs.length) c2'] rfl cs Try.underlying37 rfl (by kernel_rfl)) rfl ?_
        rw [← HF.out]
        exact ⟨_, _, _, rfl, (iv9.onlyO (OnlyO.of_only hon) (fun g hg e => by have := (iv9.own hg).1; injection e with e; omega)).lower (by omega), hb9.trans (hbel _ (by omega))⟩
set_option maxHeartbeats 4000000 in
theorem specJoin_no0 {wd fl id : Int} {w : World} {a : Option Addr} (cap : Nat) {xs : List Int} (hp : plB wd fl xs = false) (smp : ISmp w.heap.size w a xs) : Calls Try.prog 17 #[.agg #[.int .i64 wd, .int .i64 fl, .slice a xs.length cap], .int .i64 id] w fun e w' => e = .returned (.tuple #[.agg #[.int .i64 0, .int .i64 0, .slice none 0 0], .bool false]) ∧ Below w.heap.size w w' := by
  go_enter Try.func17, Try.ntmps17
  go_wp2_with (first
    | (go_at_call 49; refine (specPlaceOk_is cap hp (smp.here (by go_grown))).mono ?_; rintro e w3 ⟨rfl, hbw3⟩; have hbw : Below w.heap.size w w3 := below_two (by go_grown) hbw3; have kc := below_cells4 hbw3; have kf := below_frozens4 hbw3; have zl := hbw3.size; (try simp at zl); have p0 : w3.cell? ⟨w.heap.size, 0, none⟩ = some (.int .i64 wd) := (kc _ _ (by simp; try omega)).trans (by go_simp); have p1 : w3.cell? ⟨w.heap.size, 1, none⟩ = some (.int .i64 fl) := (kc _ _ (by simp; try omega)).trans (by go_simp); have p2 : w3.cell? ⟨w.heap.size, 2, none⟩ = some (.slice a xs.length cap) := (kc _ _ (by simp; try omega)).trans (by go_simp); have v0 : w3.cell? ⟨w.heap.size + 1, 0, none⟩ = some (.int .i64 0) := (kc _ _ (by simp; try omega)).trans (by go_simp); have v1 : w3.cell? ⟨w.heap.size + 1, 1, none⟩ = some (.int .i64 0) := (kc _ _ (by simp; try omega)).trans (by go_simp); have v2 : w3.cell? ⟨w.heap.size + 1, 2, none⟩ = some (.slice none 0 0) := (kc _ _ (by simp; try omega)).trans (by go_simp); have vz : ∀ o : Nat, w3.frozen? ⟨w.heap.size + 1, o, none⟩ = false := (fun o => (kf _ _ (by simp; try omega)).trans (by go_simp)); clear kc kf))
  obtain ⟨y, ey, cs, fzy, sz, hbel, hon⟩ := over3 (.int .i64 0) (.int .i64 0) (.slice none 0 0) (g := w.heap.size + 1) v0 v1 v2
  rw [← ey]
  refine bodyPost_ret (results_two rfl _ _ _ [.int .i64 0, .int .i64 0, .slice none 0 0] rfl cs Try.underlying37 rfl (by kernel_rfl)) rfl ?_
  exact ⟨rfl, hbw.trans (hbel _ (by omega))⟩
set_option maxHeartbeats 4000000 in
theorem specJoin_no1 {wd fl id : Int} {w : World} {a : Option Addr} (cap : Nat) {xs : List Int} (hp : plB wd fl xs = true) (hn : inQ 0 id 1000000 = false) (smp : ISmp w.heap.size w a xs) : Calls Try.prog 17 #[.agg #[.int .i64 wd, .int .i64 fl, .slice a xs.length cap], .int .i64 id] w fun e w' => e = .returned (.tuple #[.agg #[.int .i64 0, .int .i64 0, .slice none 0 0], .bool false]) ∧ Below w.heap.size w w' := by
  go_enter Try.func17, Try.ntmps17
  go_wp2_with (first
    | (go_at_call 49; refine (specPlaceOk_is cap hp (smp.here (by go_grown))).mono ?_; rintro e w3 ⟨rfl, hbw3⟩; have hbw : Below w.heap.size w w3 := below_two (by go_grown) hbw3; have kc := below_cells4 hbw3; have kf := below_frozens4 hbw3; have zl := hbw3.size; (try simp at zl); have p0 : w3.cell? ⟨w.heap.size, 0, none⟩ = some (.int .i64 wd) := (kc _ _ (by simp; try omega)).trans (by go_simp); have p1 : w3.cell? ⟨w.heap.size, 1, none⟩ = some (.int .i64 fl) := (kc _ _ (by simp; try omega)).trans (by go_simp); have p2 : w3.cell? ⟨w.heap.size, 2, none⟩ = some (.slice a xs.length cap) := (kc _ _ (by simp; try omega)).trans (by go_simp); have v0 : w3.cell? ⟨w.heap.size + 1, 0, none⟩ = some (.int .i64 0) := (kc _ _ (by simp; try omega)).trans (by go_simp); have v1 : w3.cell? ⟨w.heap.size + 1, 1, none⟩ = some (.int .i64 0) := (kc _ _ (by simp; try omega)).trans (by go_simp); have v2 : w3.cell? ⟨w.heap.size + 1, 2, none⟩ = some (.slice none 0 0) := (kc _ _ (by simp; try omega)).trans (by go_simp); have vz : ∀ o : Nat, w3.frozen? ⟨w.heap.size + 1, o, none⟩ = false := (fun o => (kf _ _ (by simp; try omega)).trans (by go_simp)); clear kc kf)
    | (go_at_call 50; refine (inQ_is hn _).mono ?_; rintro e w4 ⟨rfl, rfl⟩))
  obtain ⟨y, ey, cs, fzy, sz, hbel, hon⟩ := over3 (.int .i64 0) (.int .i64 0) (.slice none 0 0) (g := w.heap.size + 1) v0 v1 v2
  rw [← ey]
  refine bodyPost_ret (results_two rfl _ _ _ [.int .i64 0, .int .i64 0, .slice none 0 0] rfl cs Try.underlying37 rfl (by kernel_rfl)) rfl ?_
  exact ⟨rfl, hbw.trans (hbel _ (by omega))⟩
set_option maxHeartbeats 4000000 in
theorem specJoin_no2 {wd fl id : Int} {w : World} {a : Option Addr} (cap : Nat) {xs : List Int} (hp : plB wd fl xs = true) (hn : inQ 0 id 1000000 = true) (hh : hasI id xs = true) (smp : ISmp w.heap.size w a xs) : Calls Try.prog 17 #[.agg #[.int .i64 wd, .int .i64 fl, .slice a xs.length cap], .int .i64 id] w fun e w' => e = .returned (.tuple #[.agg #[.int .i64 0, .int .i64 0, .slice none 0 0], .bool false]) ∧ Below w.heap.size w w' := by
  have hl := (pl_num hp).2.2
  go_enter Try.func17, Try.ntmps17
  go_wp2_with (first
    | (go_at_call 49; refine (specPlaceOk_is cap hp (smp.here (by go_grown))).mono ?_; rintro e w3 ⟨rfl, hbw3⟩; have hbw : Below w.heap.size w w3 := below_two (by go_grown) hbw3; have kc := below_cells4 hbw3; have kf := below_frozens4 hbw3; have zl := hbw3.size; (try simp at zl); have p0 : w3.cell? ⟨w.heap.size, 0, none⟩ = some (.int .i64 wd) := (kc _ _ (by simp; try omega)).trans (by go_simp); have p1 : w3.cell? ⟨w.heap.size, 1, none⟩ = some (.int .i64 fl) := (kc _ _ (by simp; try omega)).trans (by go_simp); have p2 : w3.cell? ⟨w.heap.size, 2, none⟩ = some (.slice a xs.length cap) := (kc _ _ (by simp; try omega)).trans (by go_simp); have v0 : w3.cell? ⟨w.heap.size + 1, 0, none⟩ = some (.int .i64 0) := (kc _ _ (by simp; try omega)).trans (by go_simp); have v1 : w3.cell? ⟨w.heap.size + 1, 1, none⟩ = some (.int .i64 0) := (kc _ _ (by simp; try omega)).trans (by go_simp); have v2 : w3.cell? ⟨w.heap.size + 1, 2, none⟩ = some (.slice none 0 0) := (kc _ _ (by simp; try omega)).trans (by go_simp); have vz : ∀ o : Nat, w3.frozen? ⟨w.heap.size + 1, o, none⟩ = false := (fun o => (kf _ _ (by simp; try omega)).trans (by go_simp)); clear kc kf)
    | (go_at_call 50; refine (inQ_is hn _).mono ?_; rintro e w4 ⟨rfl, rfl⟩)
    | (go_at_call 51; refine (has_is cap hh hl (smp.here hbw)).mono ?_; rintro e w5 ⟨rfl, hb5⟩; have hbw : Below w.heap.size w w5 := below_two hbw hb5; have p0 := (hb5.cell (p := ⟨w.heap.size, 0, none⟩) (by show w.heap.size < _; omega)).trans p0; have p1 := (hb5.cell (p := ⟨w.heap.size, 1, none⟩) (by show w.heap.size < _; omega)).trans p1; have p2 := (hb5.cell (p := ⟨w.heap.size, 2, none⟩) (by show w.heap.size < _; omega)).trans p2; have v0 := (hb5.cell (p := ⟨w.heap.size + 1, 0, none⟩) (by show w.heap.size + 1 < _; omega)).trans v0; have v1 := (hb5.cell (p := ⟨w.heap.size + 1, 1, none⟩) (by show w.heap.size + 1 < _; omega)).trans v1; have v2 := (hb5.cell (p := ⟨w.heap.size + 1, 2, none⟩) (by show w.heap.size + 1 < _; omega)).trans v2; have vz : ∀ o : Nat, w5.frozen? ⟨w.heap.size + 1, o, none⟩ = false := fun o => (hb5.frozen (p := ⟨w.heap.size + 1, o, none⟩) (by show w.heap.size + 1 < _; omega)).trans (vz o); have zl : w.heap.size + 1 + 1 ≤ w5.heap.size := Nat.le_trans zl hb5.size))
  obtain ⟨y, ey, cs, fzy, sz, hbel, hon⟩ := over3 (.int .i64 0) (.int .i64 0) (.slice none 0 0) (g := w.heap.size + 1) v0 v1 v2
  rw [← ey]
  refine bodyPost_ret (results_two rfl _ _ _ [.int .i64 0, .int .i64 0, .slice none 0 0] rfl cs Try.underlying37 rfl (by kernel_rfl)) rfl ?_
  exact ⟨rfl, hbw.trans (hbel _ (by omega))⟩
set_option maxHeartbeats 4000000 in
theorem specJoin_no3 {wd fl id : Int} {w : World} {a : Option Addr} (cap : Nat) {xs : List Int} (hp : plB wd fl xs = true) (hn : inQ 0 id 1000000 = true) (hh : hasI id xs = false) (h5 : xs.length = 50) (smp : ISmp w.heap.size w a xs) : Calls Try.prog 17 #[.agg #[.int .i64 wd, .int .i64 fl, .slice a xs.length cap], .int .i64 id] w fun e w' => e = .returned (.tuple #[.agg #[.int .i64 0, .int .i64 0, .slice none 0 0], .bool false]) ∧ Below w.heap.size w w' := by
  have hl := (pl_num hp).2.2
  have h5' : (xs.length : Int) = 50 := by omega
  have h5b : ((xs.length : Int) == 50) = true := by rw [h5']; rfl
  have H5 : Hid (xs.length = 50) := h5
  clear h5
  go_enter Try.func17, Try.ntmps17
  go_wp2_with (first
    | (go_at_call 49; refine (specPlaceOk_is cap hp (smp.here (by go_grown))).mono ?_; rintro e w3 ⟨rfl, hbw3⟩; have hbw : Below w.heap.size w w3 := below_two (by go_grown) hbw3; have kc := below_cells4 hbw3; have kf := below_frozens4 hbw3; have zl := hbw3.size; (try simp at zl); have p0 : w3.cell? ⟨w.heap.size, 0, none⟩ = some (.int .i64 wd) := (kc _ _ (by simp; try omega)).trans (by go_simp); have p1 : w3.cell? ⟨w.heap.size, 1, none⟩ = some (.int .i64 fl) := (kc _ _ (by simp; try omega)).trans (by go_simp); have p2 : w3.cell? ⟨w.heap.size, 2, none⟩ = some (.slice a xs.length cap) := (kc _ _ (by simp; try omega)).trans (by go_simp); have v0 : w3.cell? ⟨w.heap.size + 1, 0, none⟩ = some (.int .i64 0) := (kc _ _ (by simp; try omega)).trans (by go_simp); have v1 : w3.cell? ⟨w.heap.size + 1, 1, none⟩ = some (.int .i64 0) := (kc _ _ (by simp; try omega)).trans (by go_simp); have v2 : w3.cell? ⟨w.heap.size + 1, 2, none⟩ = some (.slice none 0 0) := (kc _ _ (by simp; try omega)).trans (by go_simp); have vz : ∀ o : Nat, w3.frozen? ⟨w.heap.size + 1, o, none⟩ = false := (fun o => (kf _ _ (by simp; try omega)).trans (by go_simp)); clear kc kf)
    | (go_at_call 50; refine (inQ_is hn _).mono ?_; rintro e w4 ⟨rfl, rfl⟩)
    | (go_at_call 51; refine (has_is cap hh hl (smp.here hbw)).mono ?_; rintro e w5 ⟨rfl, hb5⟩; have hbw : Below w.heap.size w w5 := below_two hbw hb5; have p0 := (hb5.cell (p := ⟨w.heap.size, 0, none⟩) (by show w.heap.size < _; omega)).trans p0; have p1 := (hb5.cell (p := ⟨w.heap.size, 1, none⟩) (by show w.heap.size < _; omega)).trans p1; have p2 := (hb5.cell (p := ⟨w.heap.size, 2, none⟩) (by show w.heap.size < _; omega)).trans p2; have v0 := (hb5.cell (p := ⟨w.heap.size + 1, 0, none⟩) (by show w.heap.size + 1 < _; omega)).trans v0; have v1 := (hb5.cell (p := ⟨w.heap.size + 1, 1, none⟩) (by show w.heap.size + 1 < _; omega)).trans v1; have v2 := (hb5.cell (p := ⟨w.heap.size + 1, 2, none⟩) (by show w.heap.size + 1 < _; omega)).trans v2; have vz : ∀ o : Nat, w5.frozen? ⟨w.heap.size + 1, o, none⟩ = false := fun o => (hb5.frozen (p := ⟨w.heap.size + 1, o, none⟩) (by show w.heap.size + 1 < _; omega)).trans (vz o); have zl : w.heap.size + 1 + 1 ≤ w5.heap.size := Nat.le_trans zl hb5.size))
  obtain ⟨y, ey, cs, fzy, sz, hbel, hon⟩ := over3 (.int .i64 0) (.int .i64 0) (.slice none 0 0) (g := w.heap.size + 1) v0 v1 v2
  rw [← ey]
  refine bodyPost_ret (results_two rfl _ _ _ [.int .i64 0, .int .i64 0, .slice none 0 0] rfl cs Try.underlying37 rfl (by kernel_rfl)) rfl ?_
  exact ⟨rfl, hbw.trans (hbel _ (by omega))⟩
set_option maxHeartbeats 4000000 in
theorem specJoin_yes {wd fl id : Int} {w : World} {a : Option Addr} (cap : Nat) {xs : List Int} (hp : plB wd fl xs = true) (hn : inQ 0 id 1000000 = true) (hh : hasI id xs = false) (h5 : xs.length < 50) (hc : xs.length ≤ cap) (smp : ISmp w.heap.size w a xs) : Calls Try.prog 17 #[.agg #[.int .i64 wd, .int .i64 fl, .slice a xs.length cap], .int .i64 id] w (AnsPT w (insI xs id) wd fl true) := by
  have hl := (pl_num hp).2.2
  have h5' : ¬ ((xs.length : Int) = 50) := by omega
  have h5b : ((xs.length : Int) == 50) = false := beq_eq_false_iff_ne.2 h5'
  go_enter Try.func17, Try.ntmps17
  go_wp2_with (first
    | (go_at_call 49; refine (specPlaceOk_is cap hp (smp.here (by go_grown))).mono ?_; rintro e w3 ⟨rfl, hbw3⟩; have hbw : Below w.heap.size w w3 := below_two (by go_grown) hbw3; have kc := below_cells4 hbw3; have kf := below_frozens4 hbw3; have zl := hbw3.size; (try simp at zl); have p0 : w3.cell? ⟨w.heap.size, 0, none⟩ = some (.int .i64 wd) := (kc _ _ (by simp; try omega)).trans (by go_simp); have p1 : w3.cell? ⟨w.heap.size, 1, none⟩ = some (.int .i64 fl) := (kc _ _ (by simp; try omega)).trans (by go_simp); have p2 : w3.cell? ⟨w.heap.size, 2, none⟩ = some (.slice a xs.length cap) := (kc _ _ (by simp; try omega)).trans (by go_simp); have v0 : w3.cell? ⟨w.heap.size + 1, 0, none⟩ = some (.int .i64 0) := (kc _ _ (by simp; try omega)).trans (by go_simp); have v1 : w3.cell? ⟨w.heap.size + 1, 1, none⟩ = some (.int .i64 0) := (kc _ _ (by simp; try omega)).trans (by go_simp); have v2 : w3.cell? ⟨w.heap.size + 1, 2, none⟩ = some (.slice none 0 0) := (kc _ _ (by simp; try omega)).trans (by go_simp); have vz : ∀ o : Nat, w3.frozen? ⟨w.heap.size + 1, o, none⟩ = false := (fun o => (kf _ _ (by simp; try omega)).trans (by go_simp)); clear kc kf)
    | (go_at_call 50; refine (inQ_is hn _).mono ?_; rintro e w4 ⟨rfl, rfl⟩)
    | (go_at_call 51; refine (has_is cap hh hl (smp.here hbw)).mono ?_; rintro e w5 ⟨rfl, hb5⟩; have hbw : Below w.heap.size w w5 := below_two hbw hb5; have p0 := (hb5.cell (p := ⟨w.heap.size, 0, none⟩) (by show w.heap.size < _; omega)).trans p0; have p1 := (hb5.cell (p := ⟨w.heap.size, 1, none⟩) (by show w.heap.size < _; omega)).trans p1; have p2 := (hb5.cell (p := ⟨w.heap.size, 2, none⟩) (by show w.heap.size < _; omega)).trans p2; have v0 := (hb5.cell (p := ⟨w.heap.size + 1, 0, none⟩) (by show w.heap.size + 1 < _; omega)).trans v0; have v1 := (hb5.cell (p := ⟨w.heap.size + 1, 1, none⟩) (by show w.heap.size + 1 < _; omega)).trans v1; have v2 := (hb5.cell (p := ⟨w.heap.size + 1, 2, none⟩) (by show w.heap.size + 1 < _; omega)).trans v2; have vz : ∀ o : Nat, w5.frozen? ⟨w.heap.size + 1, o, none⟩ = false := fun o => (hb5.frozen (p := ⟨w.heap.size + 1, o, none⟩) (by show w.heap.size + 1 < _; omega)).trans (vz o); have zl : w.heap.size + 1 + 1 ≤ w5.heap.size := Nat.le_trans zl hb5.size)
    | (go_at_call 52; refine (l13Join_any cap hl hc (smp.here hbw)).mono ?_; rintro e w6 ⟨a5, n5, c5, rfl, iv6, hb6⟩; have z6 := zl; have hbw : Below w.heap.size w w6 := below_two hbw hb6; have p0 := (hb6.cell (p := ⟨w.heap.size, 0, none⟩) (by show w.heap.size < _; omega)).trans p0; have p1 := (hb6.cell (p := ⟨w.heap.size, 1, none⟩) (by show w.heap.size < _; omega)).trans p1; have p2 := (hb6.cell (p := ⟨w.heap.size, 2, none⟩) (by show w.heap.size < _; omega)).trans p2; have v0 := (hb6.cell (p := ⟨w.heap.size + 1, 0, none⟩) (by show w.heap.size + 1 < _; omega)).trans v0; have v1 := (hb6.cell (p := ⟨w.heap.size + 1, 1, none⟩) (by show w.heap.size + 1 < _; omega)).trans v1; have v2 := (hb6.cell (p := ⟨w.heap.size + 1, 2, none⟩) (by show w.heap.size + 1 < _; omega)).trans v2; have vz : ∀ o : Nat, w6.frozen? ⟨w.heap.size + 1, o, none⟩ = false := fun o => (hb6.frozen (p := ⟨w.heap.size + 1, o, none⟩) (by show w.heap.size + 1 < _; omega)).trans (vz o); have zl : w.heap.size + 1 + 1 ≤ w6.heap.size := Nat.le_trans zl hb6.size))
  obtain ⟨y, ey, cs, fzy, sz, hbel, hon⟩ := over3 (.int .i64 wd) (.int .i64 fl) (.slice a5 n5 c5) (g := w.heap.size + 1) v0 v1 v2
  rw [← ey]
  refine bodyPost_ret (results_two rfl _ _ _ [.int .i64 wd, .int .i64 fl, .slice a5 n5 c5] rfl cs Try.underlying37 rfl (by kernel_rfl)) rfl ?_
  exact ⟨_, _, _, rfl, (iv6.onlyO (OnlyO.of_only hon) (fun g hg e => by have := (iv6.own hg).1; injection e with e; omega)).lower (by omega), hbw.trans (hbel _ (by omega))⟩
end Go.Proofs.Ytoeiheccmpjclaf
