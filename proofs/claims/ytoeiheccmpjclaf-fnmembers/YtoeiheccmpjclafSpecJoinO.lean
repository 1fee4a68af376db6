/- spec.Join's answer as a row of its own. -/
import Derived.Test.YtoeiheccmpjclafSpecPlc4
import Derived.Test.YtoeiheccmpjclafDrawO
namespace Go.Proofs.Ytoeiheccmpjclaf
open Go.ChangeShapes Go.WideShapes Go.ChangeAt Go.RowKit
set_option maxRecDepth 100000
set_option linter.unusedVariables false
set_option linter.unusedSimpArgs false

theorem row_lowI {w : World} {b b' : Nat} {e : TypeId} {s n : Nat} {v : Value} {xs : List Value} (h : w.ownsRow b e s v n xs) (hb : b' ≤ b) : w.ownsRow b' e s v n xs :=
  ⟨h.1, h.2.imp id (fun ⟨g, cap, cur, e1, hg, r⟩ => ⟨g, cap, cur, e1, Nat.le_trans hb hg, r⟩)⟩
/-- A Place whose list is a row of the call's own. -/
def AnsO (w : World) (xs : List Int) (wd fl : Int) (e : Ending) (w' : World) : Prop := ∃ a n c, e = .returned (.agg #[.int .i64 wd, .int .i64 fl, .slice a n c]) ∧ w'.ownsRow w.heap.size 2 1 (.slice a n c) xs.length (flatI xs) ∧ Below w.heap.size w w'
def AnsOT (w : World) (xs : List Int) (wd fl : Int) (f : Bool) (e : Ending) (w' : World) : Prop := ∃ a n c, e = .returned (.tuple #[.agg #[.int .i64 wd, .int .i64 fl, .slice a n c], .bool f]) ∧ w'.ownsRow w.heap.size 2 1 (.slice a n c) xs.length (flatI xs) ∧ Below w.heap.size w w'
theorem insI_many {xs : List Int} {id : Int} : (insI xs id).length = xs.length + 1 := by
  unfold insI
  rw [List.length_append, List.length_cons]
  have h := congrArg List.length (List.takeWhile_append_dropWhile (p := fun y => decide (y < id)) (l := xs))
  rw [List.length_append] at h
  omega
set_option maxHeartbeats 8000000 in
theorem l13Join_own {wd fl id : Int} {w : World} {a : Option Addr} (cap : Nat) {xs : List Int} (hl : xs.length ≤ 50) (hc : xs.length ≤ cap) (smp : ISmp w.heap.size w a xs) : Calls Try.prog 52 #[.agg #[.int .i64 wd, .int .i64 fl, .slice a xs.length cap], .int .i64 id] w (AnsO w (insI xs id) wd fl) := by
  obtain ⟨i0, hi, hz0, hz1, hz2⟩ := info_parts info_int
  go_enter Try.func52, Try.ntmps52
  go_upto_region 2 with (fail)
  obtain ⟨x, hx⟩ : ∃ x, x = ((w.alloc (.cells #[.int .i64 wd, .int .i64 fl, .slice a xs.length cap] 37)).alloc (.cells #[.int .i64 0, .int .i64 0, .slice none 0 0] 37)).alloc (.cells #[.int .i64 wd, .int .i64 fl, .slice none 0 0] 37) := ⟨_, rfl⟩
  rw [← hx]
  have hbx : Below w.heap.size w x := by rw [hx]; go_grown
  obtain ⟨q, hq⟩ : ∃ q, q = w.heap.size + 1 + 1 := ⟨_, rfl⟩
  rw [← hq]
  obtain ⟨f1, hf1⟩ : ∃ f1 : Int, f1 = fl := ⟨_, rfl⟩
  have J0 : Hid (JSt w q wd fl f1 a xs cap x (.slice none 0 0) 0 []) := by
    rw [hx, hq, hf1]
    exact ⟨⟨⟨by simp; omega, by go_simp, by go_simp, by go_simp⟩, ⟨by simp, by go_simp, by go_simp, by go_simp⟩, ⟨by simp, by go_simp, by go_simp, by go_simp⟩, fun k => by go_simp, fun k => by go_simp, by go_grown, by omega⟩, World.ownsRow_nil _ _ _ _⟩
  clear hx hq hbx
  have HF : Hid (f1 = fl) := hf1
  clear hf1
  go_wp2
  go_loopw [6] (fun i wr => ∃ (k : Nat) (ua : Option Addr) (uc : Nat), i = .int .i64 k ∧ k ≤ xs.length ∧ JSt w q wd fl f1 a xs cap wr (.slice ua k uc) k (xs.take k) ∧ (∀ j (hj : j < xs.length), j < k → xs[j] < id)) (fun i _ => xs.length - (intOf i).toNat)
  case atStart => exact ⟨0, none, 0, rfl, by omega, J0.out, fun j hj h => by omega⟩
  case round =>
    clear J0
    obtain ⟨n, ua, uc, rfl, hk, JS, hbef⟩ := hrel
    obtain ⟨k, hkn⟩ : ∃ k, k = n := ⟨_, rfl⟩
    obtain ⟨ys, hys⟩ : ∃ ys, ys = xs.take n := ⟨_, rfl⟩
    have HYS : Hid (ys = xs.take n) := hys
    rw [← hys] at JS
    have JJ : Hid (JSt w q wd fl f1 a xs cap wr (.slice ua n uc) n ys) := JS
    have hwr : Below w.heap.size w wr := JS.k.hb
    have hwq := JS.wq
    have hqz := JS.o.z
    have HB : Hid (∀ j (hj : j < xs.length), j < n → xs[j] < id) := hbef
    clear JS hys hbef
    have s0 : wr.cell? ⟨w.heap.size, 2, none⟩ = some (.slice a xs.length cap) := JJ.out.k.p.c2
    have s1 : wr.cell? ⟨q, 2, none⟩ = some (.slice ua n uc) := JJ.out.k.o.c2
    have hwz : w.heap.size < wr.heap.size := JJ.out.k.p.z
    by_cases hgo : ∃ h : n < xs.length, xs[n] < id
    · obtain ⟨hlt, hy0⟩ := hgo
      obtain ⟨y, hy⟩ : ∃ y, xs[n] = y := ⟨_, rfl⟩
      have HY : Hid (xs.take (n + 1) = ys ++ [y]) := by show _ = _; rw [List.take_succ_eq_append_getElem hlt, hy, HYS.out]
      have HN : Hid (∀ j (hj : j < xs.length), j < n + 1 → xs[j] < id) := fun j hj h => by
        by_cases e : j = n
        · subst e
          exact hy0
        · exact HB.out j hj (by omega)
      have hlt' : (n : Int) < (xs.length : Int) := by omega
      obtain ⟨b, off, rfl, hb, c0⟩ := smp.at hwr n hlt
      rw [hy] at c0 hy0
      rw [← hkn] at c0
      have hyd : decide (y < id) = true := decide_eq_true hy0
      have hn50 : n < 50 := by omega
      clear hy
      subst hkn
      go_wp2
      refine region_late (S := fun w' => w'.cell? ⟨w.heap.size, 2, none⟩ = some (.slice (some ⟨b, off, none⟩) xs.length cap) ∧ w'.cell? ⟨q, 2, none⟩ = some (.slice ua k uc) ∧ w'.cell? ⟨b, off + k, none⟩ = some (.int .i64 y)) 10 (by kernel_rfl) (⟨by go_simp, by go_simp, by go_simp⟩) (fun hS => ?_)
      refine late_take (i := 0) (v := ?_) rfl (by kernel_rfl) (by kernel_rfl) (by kernel_rfl) (by kernel_rfl) (fun _ _ _ h => h) (Or.inl ⟨by rfl, ?_⟩) (by assumption) ?_
      rotate_left 1
      · (intro w' hSw; (try dsimp only at hSw); go_simp; try with_reducible rfl)
      try simp only [Act.put, List.setIfInBounds_toArray, List.set_cons_zero, List.set_cons_succ, List.getElem_toArray, List.getElem_cons_succ, List.getElem_cons_zero]
      refine late_take (i := 1) (v := ?_) rfl (by kernel_rfl) (by kernel_rfl) (by kernel_rfl) (by kernel_rfl) (fun _ _ _ h => h) (Or.inl ⟨by rfl, ?_⟩) (by assumption) ?_
      rotate_left 1
      · (intro w' hSw; (try dsimp only at hSw); go_simp; try with_reducible rfl)
      try simp only [Act.put, List.setIfInBounds_toArray, List.set_cons_zero, List.set_cons_succ, List.getElem_toArray, List.getElem_cons_succ, List.getElem_cons_zero]
      refine late_take (i := 2) (v := ?_) rfl (by kernel_rfl) (by kernel_rfl) (by kernel_rfl) (by kernel_rfl) (fun _ _ _ h => h) (Or.inl ⟨by rfl, ?_⟩) (by assumption) ?_
      rotate_left 1
      · (intro w' hSw; (try dsimp only at hSw); go_simp; try with_reducible rfl)
      try simp only [Act.put, List.setIfInBounds_toArray, List.set_cons_zero, List.set_cons_succ, List.getElem_toArray, List.getElem_cons_succ, List.getElem_cons_zero]
      refine late_take (i := 3) (v := ?_) rfl (by kernel_rfl) (by kernel_rfl) (by kernel_rfl) (by kernel_rfl) (fun _ _ _ h => h) (Or.inl ⟨by rfl, ?_⟩) (by assumption) ?_
      rotate_left 1
      · (intro w' hSw; (try dsimp only at hSw); go_simp; try with_reducible rfl)
      try simp only [Act.put, List.setIfInBounds_toArray, List.set_cons_zero, List.set_cons_succ, List.getElem_toArray, List.getElem_cons_succ, List.getElem_cons_zero]
      refine late_take (i := 4) (v := ?_) rfl (by kernel_rfl) (by kernel_rfl) (by kernel_rfl) (by kernel_rfl) (fun _ _ _ h => h) (Or.inl ⟨by rfl, ?_⟩) (by assumption) ?_
      rotate_left 1
      · (intro w' hSw; (try dsimp only at hSw); go_simp; try with_reducible rfl)
      try simp only [Act.put, List.setIfInBounds_toArray, List.set_cons_zero, List.set_cons_succ, List.getElem_toArray, List.getElem_cons_succ, List.getElem_cons_zero]
      refine late_take (i := 5) (v := ?_) rfl (by kernel_rfl) (by kernel_rfl) (by kernel_rfl) (by kernel_rfl) (fun _ _ _ h => h) (Or.inl ⟨by rfl, ?_⟩) (by assumption) ?_
      rotate_left 1
      · (intro w' hSw; (try dsimp only at hSw); go_simp; try with_reducible rfl)
      try simp only [Act.put, List.setIfInBounds_toArray, List.set_cons_zero, List.set_cons_succ, List.getElem_toArray, List.getElem_cons_succ, List.getElem_cons_zero]
      refine late_take (i := 6) (v := ?_) rfl (by kernel_rfl) (by kernel_rfl) (by kernel_rfl) (by kernel_rfl) (fun _ _ _ h => h) (Or.inl ⟨by rfl, ?_⟩) (by assumption) ?_
      rotate_left 1
      · (intro w' hSw; (try dsimp only at hSw); go_simp; try with_reducible rfl)
      try simp only [Act.put, List.setIfInBounds_toArray, List.set_cons_zero, List.set_cons_succ, List.getElem_toArray, List.getElem_cons_succ, List.getElem_cons_zero]
      refine late_one (i := 7) (by kernel_rfl) rfl (fun K hK => ?_)
      go_simp
      refine hK.out _ _ (have k' := below_cells (w := wr) (w' := (wr.drew.alloc (.cells #[.int .i64 y] 2))) (by go_grown); ⟨(k' _ _ (by omega)).trans s0, (k' _ _ (by omega)).trans s1, (k' _ _ (by have := hwr.size; omega)).trans c0⟩) (fun hS => ?_)
      try simp only [Act.put, List.setIfInBounds_toArray, List.set_cons_zero, List.set_cons_succ, List.getElem_toArray, List.getElem_cons_succ, List.getElem_cons_zero]
      refine late_one (i := 8) (by kernel_rfl) rfl (fun K hK => ?_)
      rw [if_pos (by rfl)]
      refine wp_append_own _ _ _ 35 rfl (q + 1) 2 i0 _ 1 8 Try.underlying35 hi hz0 hz1 hz2 rfl (by decide) _ _ _ rfl (JJ.out.own.drew.alloc _) ⟨wr.heap.size, 0, none⟩ 1 1 [.int .i64 y] rfl rfl (one_news (by go_simp)) (fun u hu => by rw [List.mem_singleton] at hu; subst hu; rfl) (by unfold maxLen; omega) (by omega) (by have := JJ.out.o.z; simp; omega) ?_
      intro v1 wx hown1 hgr1 hnil1
      obtain ⟨a1, c1', rfl⟩ := own_slice hown1
      have hno : OnlyO (Value.slice ua k uc).ownBlock wr wx := OnlyO.trans (OnlyO.of_below (by go_grown)) (OnlyO.of_grown hgr1)
      have J1 := JJ.out.k.onlyO hno (fun g e' => by have := (JJ.out.own.lt g e').1; omega)
      have JF : Hid (JSt w q wd fl f1 (some ⟨b, off, none⟩) xs cap (wx.setCell ⟨q, 2, none⟩ (.slice a1 (k + 1) c1')) (.slice a1 (k + 1) c1') (k + 1) (ys ++ [y])) := JK.put J1 (by rw [flatI_append]; exact hown1)
      have hx1 := hno.size
      have s0x := J1.p.c2
      have s1x := J1.o.c2
      have s2x := J1.of
      refine hK.out _ _ ⟨s0x, s1x, (hno.cell (p := ⟨b, off + k, none⟩) (by show b < _; have := hwr.size; omega) (fun e' => by have h1 := (JJ.out.own.lt _ e').1; have h2 := JJ.out.wq; change q + 1 ≤ b at h1; omega)).trans c0⟩ (fun hS => ?_)
      try simp only [Act.put, List.setIfInBounds_toArray, List.set_cons_zero, List.set_cons_succ, List.getElem_toArray, List.getElem_cons_succ, List.getElem_cons_zero]
      refine late_take (i := 9) (v := ?_) rfl (by kernel_rfl) (by kernel_rfl) (by kernel_rfl) (by kernel_rfl) (fun _ _ _ h => h) (Or.inl ⟨by rfl, ?_⟩) (by assumption) ?_
      rotate_left 1
      · (intro w' hSw; (try dsimp only at hSw); go_simp; try with_reducible rfl)
      try simp only [Act.put, List.setIfInBounds_toArray, List.set_cons_zero, List.set_cons_succ, List.getElem_toArray, List.getElem_cons_succ, List.getElem_cons_zero]
      refine late_last (by kernel_rfl) rfl (by kernel_rfl) (fun K hK => ?_)
      go_simp
      refine hK.out _ _ ?_
      try simp only [Act.put, List.setIfInBounds_toArray, List.set_cons_zero, List.set_cons_succ, List.getElem_toArray, List.getElem_cons_succ, List.getElem_cons_zero]
      obtain ⟨x9, hx9⟩ : ∃ x, x = wx.setCell ⟨q, 2, none⟩ (.slice a1 (k + 1) c1') := ⟨_, rfl⟩
      rw [← hx9] at JF ⊢
      clear hx9
      go_wp2
      go_roundw
      case rel => exact ⟨k + 1, a1, c1', by go_num, by omega, by rw [HY.out]; exact JF.out, HN.out⟩
      case measure => first | (simp [intOf]; done) | (simp [intOf]; omega)
    · have HINS : Hid (insI xs id = ys ++ [id] ++ xs.drop n) := by
        show _ = _
        rw [HYS.out]
        exact insI_at hk HB.out (fun h hh => hgo ⟨h, hh⟩)
      have hsl := fun w => sliceI_run (a := a) (cap := cap) (show (n : Int) ≤ (xs.length : Int) by omega) w
      have HSL : Hid (∀ w, (Instr.sliceAt 35 (.slice a xs.length cap) (some (.int .i64 (n : Int))) none none).run Try.prog w = .ok (.slice (if cap = n then a else a.map (·.add n)) (xs.length - n) (cap - n)) w) := hsl
      clear hsl
      have HSM : Hid (∀ wx, Below w.heap.size w wx → ISmp w.heap.size wx (if cap = n then a else a.map (·.add n)) (xs.drop n)) := fun wx h => smp_drop (smp.mono h) hk hc
      obtain ⟨u, hu⟩ : ∃ u : Option Addr, (if cap = n then a else a.map (·.add n)) = u := ⟨_, rfl⟩
      rw [hu] at HSL HSM
      clear hu
      obtain ⟨zs, hzs⟩ : ∃ zs, zs = xs.drop n := ⟨_, rfl⟩
      have HZL : Hid (xs.length - n = zs.length) := by show _ = _; rw [hzs, List.length_drop]
      have hzl : n + 1 + zs.length ≤ 60 := by rw [hzs, List.length_drop]; omega
      rw [← hzs] at HSM HINS
      rw [HZL.out] at HSL
      have HIL : Hid ((insI xs id).length = n + 1 + zs.length) := by
        show _ = _
        rw [HINS.out, List.length_append, List.length_append, HYS.out, List.length_take]
        simp
        omega
      clear hzs
      by_cases hlt : n < xs.length
      · have hlt' : (n : Int) < (xs.length : Int) := by omega
        obtain ⟨b, off, rfl, hb, c0⟩ := smp.at hwr n hlt
        obtain ⟨y, hy⟩ : ∃ y, xs[n] = y := ⟨_, rfl⟩
        have hyd : decide (y < id) = false := decide_eq_false (fun h => hgo ⟨hlt, by rw [hy]; exact h⟩)
        rw [hy] at c0
        clear hy hgo
        go_upto_region 6 with (fail)
        refine region_late (S := fun w' => w'.cell? ⟨w.heap.size, 2, none⟩ = some (.slice (some ⟨b, off, none⟩) xs.length cap) ∧ w'.cell? ⟨q, 2, none⟩ = some (.slice ua n uc)) 13 (by kernel_rfl) (⟨by go_simp, by go_simp⟩) (fun hS => ?_)
        refine late_take (i := 0) (v := ?_) rfl (by kernel_rfl) (by kernel_rfl) (by kernel_rfl) (by kernel_rfl) (fun _ _ _ h => h) (Or.inl ⟨by rfl, ?_⟩) (by assumption) ?_
        rotate_left 1
        · (intro w' hSw; (try dsimp only at hSw); go_simp; try with_reducible rfl)
        try simp only [Act.put, List.setIfInBounds_toArray, List.set_cons_zero, List.set_cons_succ, List.getElem_toArray, List.getElem_cons_succ, List.getElem_cons_zero]
        refine late_take (i := 1) (v := ?_) rfl (by kernel_rfl) (by kernel_rfl) (by kernel_rfl) (by kernel_rfl) (fun _ _ _ h => h) (Or.inl ⟨by rfl, ?_⟩) (by assumption) ?_
        rotate_left 1
        · (intro w' hSw; (try dsimp only at hSw); go_simp; try with_reducible rfl)
        try simp only [Act.put, List.setIfInBounds_toArray, List.set_cons_zero, List.set_cons_succ, List.getElem_toArray, List.getElem_cons_succ, List.getElem_cons_zero]
        refine late_take (i := 2) (v := ?_) rfl (by kernel_rfl) (by kernel_rfl) (by kernel_rfl) (by kernel_rfl) (fun _ _ _ h => h) (Or.inl ⟨by rfl, ?_⟩) (by assumption) ?_
        rotate_left 1
        · (intro w' hSw; (try dsimp only at hSw); go_simp; try with_reducible rfl)
        try simp only [Act.put, List.setIfInBounds_toArray, List.set_cons_zero, List.set_cons_succ, List.getElem_toArray, List.getElem_cons_succ, List.getElem_cons_zero]
        refine late_take (i := 5) (v := ?_) rfl (by kernel_rfl) (by kernel_rfl) (by kernel_rfl) (by kernel_rfl) (fun _ _ _ h => h) (Or.inl ⟨by rfl, ?_⟩) (by assumption) ?_
        rotate_left 1
        · (intro w' hSw; (try dsimp only at hSw); go_simp; try with_reducible rfl)
        try simp only [Act.put, List.setIfInBounds_toArray, List.set_cons_zero, List.set_cons_succ, List.getElem_toArray, List.getElem_cons_succ, List.getElem_cons_zero]
        refine late_take (i := 6) (v := ?_) rfl (by kernel_rfl) (by kernel_rfl) (by kernel_rfl) (by kernel_rfl) (fun _ _ _ h => h) (Or.inl ⟨by rfl, ?_⟩) (by assumption) ?_
        rotate_left 1
        · (intro w' hSw; (try dsimp only at hSw); go_simp; try with_reducible rfl)
        try simp only [Act.put, List.setIfInBounds_toArray, List.set_cons_zero, List.set_cons_succ, List.getElem_toArray, List.getElem_cons_succ, List.getElem_cons_zero]
        refine late_take (i := 7) (v := ?_) rfl (by kernel_rfl) (by kernel_rfl) (by kernel_rfl) (by kernel_rfl) (fun _ _ _ h => h) (Or.inl ⟨by rfl, ?_⟩) (by assumption) ?_
        rotate_left 1
        · (intro w' hSw; (try dsimp only at hSw); go_simp; try with_reducible rfl)
        try simp only [Act.put, List.setIfInBounds_toArray, List.set_cons_zero, List.set_cons_succ, List.getElem_toArray, List.getElem_cons_succ, List.getElem_cons_zero]
        refine late_take (i := 8) (v := ?_) rfl (by kernel_rfl) (by kernel_rfl) (by kernel_rfl) (by kernel_rfl) (fun _ _ _ h => h) (Or.inl ⟨by rfl, ?_⟩) (by assumption) ?_
        rotate_left 1
        · (intro w' hSw; (try dsimp only at hSw); go_simp; try with_reducible rfl)
        try simp only [Act.put, List.setIfInBounds_toArray, List.set_cons_zero, List.set_cons_succ, List.getElem_toArray, List.getElem_cons_succ, List.getElem_cons_zero]
        refine late_take (i := 9) (v := ?_) rfl (by kernel_rfl) (by kernel_rfl) (by kernel_rfl) (by kernel_rfl) (fun _ _ _ h => h) (Or.inl ⟨by rfl, ?_⟩) (by assumption) ?_
        rotate_left 1
        · (intro w' hSw; (try dsimp only at hSw); go_simp; try with_reducible rfl)
        try simp only [Act.put, List.setIfInBounds_toArray, List.set_cons_zero, List.set_cons_succ, List.getElem_toArray, List.getElem_cons_succ, List.getElem_cons_zero]
        refine late_take (i := 10) (v := .slice u zs.length (cap - n)) rfl (by kernel_rfl) (by kernel_rfl) (by kernel_rfl) (by kernel_rfl) (fun _ _ _ h => h) (Or.inl ⟨by rfl, ?_⟩) (by assumption) ?_
        · (intro w' hSw; (try dsimp only at hSw); have h := HSL.out w'; simp [execOp, Act.eval, h, Result.andThen])
        try simp only [Act.put, List.setIfInBounds_toArray, List.set_cons_zero, List.set_cons_succ, List.getElem_toArray, List.getElem_cons_succ, List.getElem_cons_zero]
        refine late_one (i := 3) (by kernel_rfl) rfl (fun K hK => ?_)
        go_simp
        refine hK.out _ _ (have k' := below_cells (w := wr) (w' := (wr.drew.alloc (.cells #[.int .i64 id] 2))) (by go_grown); ⟨(k' _ _ (by omega)).trans s0, (k' _ _ (by omega)).trans s1⟩) (fun hS => ?_)
        try simp only [Act.put, List.setIfInBounds_toArray, List.set_cons_zero, List.set_cons_succ, List.getElem_toArray, List.getElem_cons_succ, List.getElem_cons_zero]
        refine late_one (i := 4) (by kernel_rfl) rfl (fun K hK => ?_)
        rw [if_pos (by rfl)]
        refine wp_append_own _ _ _ 35 rfl (q + 1) 2 i0 _ 1 8 Try.underlying35 hi hz0 hz1 hz2 rfl (by decide) _ _ _ rfl (JJ.out.own.drew.alloc _) ⟨wr.heap.size, 0, none⟩ 1 1 [.int .i64 id] rfl rfl (one_news (by go_simp)) (fun u hu => by rw [List.mem_singleton] at hu; subst hu; rfl) (by unfold maxLen; omega) (by omega) (by simp; omega) ?_
        intro v1 wx hown1 hgr1 hnil1
        obtain ⟨a1, c1', rfl⟩ := own_slice hown1
        have hno : OnlyO (Value.slice ua n uc).ownBlock wr wx := OnlyO.trans (OnlyO.of_below (by go_grown)) (OnlyO.of_grown hgr1)
        have J1 := JJ.out.k.onlyO hno (fun g e' => by have := (JJ.out.own.lt g e').1; omega)
        have hx1 := hno.size
        have s0x := J1.p.c2
        have s1x := J1.o.c2
        refine hK.out _ _ ⟨s0x, s1x⟩ (fun hS => ?_)
        try simp only [Act.put, List.setIfInBounds_toArray, List.set_cons_zero, List.set_cons_succ, List.getElem_toArray, List.getElem_cons_succ, List.getElem_cons_zero]
        refine late_one (i := 11) (by kernel_rfl) rfl (fun K hK => ?_)
        rw [if_pos (by rfl)]
        refine wp_append_smp _ _ 35 rfl (q + 1) 2 i0 _ Try.underlying35 hi hz0 hz1 hz2 rfl _ _ _ rfl hown1 u (cap - n) w.heap.size zs rfl (HSM.out _ J1.hb) (by omega) (by omega) ?_
        intro v2 wy hown2 hgr2
        obtain ⟨a2, c2', rfl⟩ := own_slice hown2
        have hno2 : OnlyO (Value.slice a1 (n + 1) c1').ownBlock wx wy := OnlyO.of_grown hgr2
        have J2 := J1.onlyO hno2 (fun g e' => by have := (hown1.lt g e').1; omega)
        have JF : Hid (JSt w q wd fl f1 ((some ⟨b, off, none⟩)) xs cap (wy.setCell ⟨q, 2, none⟩ (.slice a2 (n + 1 + zs.length) c2')) (.slice a2 (n + 1 + zs.length) c2') (n + 1 + zs.length) (insI xs id)) := JK.put J2 (by rw [HINS.out, flatI_append, flatI_append]; exact hown2)
        have s0y := J2.p.c2
        have s1y := J2.o.c2
        have s2y := J2.of
        have hqy := J2.o.z
        refine hK.out _ _ ⟨s0y, s1y⟩ (fun hS => ?_)
        try simp only [Act.put, List.setIfInBounds_toArray, List.set_cons_zero, List.set_cons_succ, List.getElem_toArray, List.getElem_cons_succ, List.getElem_cons_zero]
        refine late_take (i := 12) (v := ?_) rfl (by kernel_rfl) (by kernel_rfl) (by kernel_rfl) (by kernel_rfl) (fun _ _ _ h => h) (Or.inl ⟨by rfl, ?_⟩) (by assumption) ?_
        rotate_left 1
        · (intro w' hSw; (try dsimp only at hSw); go_simp; try with_reducible rfl)
        try simp only [Act.put, List.setIfInBounds_toArray, List.set_cons_zero, List.set_cons_succ, List.getElem_toArray, List.getElem_cons_succ, List.getElem_cons_zero]
        refine late_last (by kernel_rfl) rfl (by kernel_rfl) (fun K hK => ?_)
        go_simp
        refine hK.out _ _ ?_
        try simp only [Act.put, List.setIfInBounds_toArray, List.set_cons_zero, List.set_cons_succ, List.getElem_toArray, List.getElem_cons_succ, List.getElem_cons_zero]
        obtain ⟨x9, hx9⟩ : ∃ x, x = wy.setCell ⟨q, 2, none⟩ (.slice a2 (n + 1 + zs.length) c2') := ⟨_, rfl⟩
        rw [← hx9] at JF ⊢
        clear hx9
        have v0 := JF.out.k.r.c0
        have v1 := JF.out.k.r.c1
        have v2 := JF.out.k.r.c2
        have vz := JF.out.k.rf
        have o0 := JF.out.k.o.c0
        have o1 := JF.out.k.o.c1
        have o2 := JF.out.k.o.c2
        have hb9 := JF.out.k.hb
        have ow9 := JF.out.own
        have iv9 : IV x9 (q + 1) (.slice a2 (n + 1 + zs.length) c2') (insI xs id) := own_intsN HIL.out.symm ow9
        go_wp2
        obtain ⟨y9, ey, cs, fzy, sz, hbel, hon⟩ := over3 (.int .i64 wd) (.int .i64 f1) (.slice a2 (n + 1 + zs.length) c2') (w := x9) (g := w.heap.size + 1) v0 v1 v2
        rw [← ey]
        refine bodyPost_ret (results_one rfl _ _ _ [.int .i64 wd, .int .i64 f1, .slice a2 (n + 1 + zs.length) c2'] rfl cs Try.underlying37 rfl (by kernel_rfl)) rfl ?_
        rw [← HF.out]
        exact ⟨_, _, _, rfl, row_lowI (row_only (show x9.ownsRow (q + 1) 2 1 (.slice a2 (n + 1 + zs.length) c2') (insI xs id).length (flatI (insI xs id)) by rw [HIL.out]; exact ow9) hon (by omega)) (by omega), hb9.trans (hbel _ (by omega))⟩
      · have hlt' : ¬ (n : Int) < (xs.length : Int) := by omega
        have hdl : decide ((n : Int) < (xs.length : Int)) = false := decide_eq_false hlt'
        clear hgo
        go_upto_region 6 with (fail)
        refine region_late (S := fun w' => w'.cell? ⟨w.heap.size, 2, none⟩ = some (.slice a xs.length cap) ∧ w'.cell? ⟨q, 2, none⟩ = some (.slice ua n uc)) 13 (by kernel_rfl) (⟨by go_simp, by go_simp⟩) (fun hS => ?_)
        refine late_take (i := 0) (v := ?_) rfl (by kernel_rfl) (by kernel_rfl) (by kernel_rfl) (by kernel_rfl) (fun _ _ _ h => h) (Or.inl ⟨by rfl, ?_⟩) (by assumption) ?_
        rotate_left 1
        · (intro w' hSw; (try dsimp only at hSw); go_simp; try with_reducible rfl)
        try simp only [Act.put, List.setIfInBounds_toArray, List.set_cons_zero, List.set_cons_succ, List.getElem_toArray, List.getElem_cons_succ, List.getElem_cons_zero]
        refine late_take (i := 1) (v := ?_) rfl (by kernel_rfl) (by kernel_rfl) (by kernel_rfl) (by kernel_rfl) (fun _ _ _ h => h) (Or.inl ⟨by rfl, ?_⟩) (by assumption) ?_
        rotate_left 1
        · (intro w' hSw; (try dsimp only at hSw); go_simp; try with_reducible rfl)
        try simp only [Act.put, List.setIfInBounds_toArray, List.set_cons_zero, List.set_cons_succ, List.getElem_toArray, List.getElem_cons_succ, List.getElem_cons_zero]
        refine late_take (i := 2) (v := ?_) rfl (by kernel_rfl) (by kernel_rfl) (by kernel_rfl) (by kernel_rfl) (fun _ _ _ h => h) (Or.inl ⟨by rfl, ?_⟩) (by assumption) ?_
        rotate_left 1
        · (intro w' hSw; (try dsimp only at hSw); go_simp; try with_reducible rfl)
        try simp only [Act.put, List.setIfInBounds_toArray, List.set_cons_zero, List.set_cons_succ, List.getElem_toArray, List.getElem_cons_succ, List.getElem_cons_zero]
        refine late_take (i := 5) (v := ?_) rfl (by kernel_rfl) (by kernel_rfl) (by kernel_rfl) (by kernel_rfl) (fun _ _ _ h => h) (Or.inl ⟨by rfl, ?_⟩) (by assumption) ?_
        rotate_left 1
        · (intro w' hSw; (try dsimp only at hSw); go_simp; try with_reducible rfl)
        try simp only [Act.put, List.setIfInBounds_toArray, List.set_cons_zero, List.set_cons_succ, List.getElem_toArray, List.getElem_cons_succ, List.getElem_cons_zero]
        refine late_take (i := 6) (v := ?_) rfl (by kernel_rfl) (by kernel_rfl) (by kernel_rfl) (by kernel_rfl) (fun _ _ _ h => h) (Or.inl ⟨by rfl, ?_⟩) (by assumption) ?_
        rotate_left 1
        · (intro w' hSw; (try dsimp only at hSw); go_simp; try with_reducible rfl)
        try simp only [Act.put, List.setIfInBounds_toArray, List.set_cons_zero, List.set_cons_succ, List.getElem_toArray, List.getElem_cons_succ, List.getElem_cons_zero]
        refine late_take (i := 7) (v := ?_) rfl (by kernel_rfl) (by kernel_rfl) (by kernel_rfl) (by kernel_rfl) (fun _ _ _ h => h) (Or.inl ⟨by rfl, ?_⟩) (by assumption) ?_
        rotate_left 1
        · (intro w' hSw; (try dsimp only at hSw); go_simp; try with_reducible rfl)
        try simp only [Act.put, List.setIfInBounds_toArray, List.set_cons_zero, List.set_cons_succ, List.getElem_toArray, List.getElem_cons_succ, List.getElem_cons_zero]
        refine late_take (i := 8) (v := ?_) rfl (by kernel_rfl) (by kernel_rfl) (by kernel_rfl) (by kernel_rfl) (fun _ _ _ h => h) (Or.inl ⟨by rfl, ?_⟩) (by assumption) ?_
        rotate_left 1
        · (intro w' hSw; (try dsimp only at hSw); go_simp; try with_reducible rfl)
        try simp only [Act.put, List.setIfInBounds_toArray, List.set_cons_zero, List.set_cons_succ, List.getElem_toArray, List.getElem_cons_succ, List.getElem_cons_zero]
        refine late_take (i := 9) (v := ?_) rfl (by kernel_rfl) (by kernel_rfl) (by kernel_rfl) (by kernel_rfl) (fun _ _ _ h => h) (Or.inl ⟨by rfl, ?_⟩) (by assumption) ?_
        rotate_left 1
        · (intro w' hSw; (try dsimp only at hSw); go_simp; try with_reducible rfl)
        try simp only [Act.put, List.setIfInBounds_toArray, List.set_cons_zero, List.set_cons_succ, List.getElem_toArray, List.getElem_cons_succ, List.getElem_cons_zero]
        refine late_take (i := 10) (v := .slice u zs.length (cap - n)) rfl (by kernel_rfl) (by kernel_rfl) (by kernel_rfl) (by kernel_rfl) (fun _ _ _ h => h) (Or.inl ⟨by rfl, ?_⟩) (by assumption) ?_
        · (intro w' hSw; (try dsimp only at hSw); have h := HSL.out w'; simp [execOp, Act.eval, h, Result.andThen])
        try simp only [Act.put, List.setIfInBounds_toArray, List.set_cons_zero, List.set_cons_succ, List.getElem_toArray, List.getElem_cons_succ, List.getElem_cons_zero]
        refine late_one (i := 3) (by kernel_rfl) rfl (fun K hK => ?_)
        go_simp
        refine hK.out _ _ (have k' := below_cells (w := wr) (w' := (wr.drew.alloc (.cells #[.int .i64 id] 2))) (by go_grown); ⟨(k' _ _ (by omega)).trans s0, (k' _ _ (by omega)).trans s1⟩) (fun hS => ?_)
        try simp only [Act.put, List.setIfInBounds_toArray, List.set_cons_zero, List.set_cons_succ, List.getElem_toArray, List.getElem_cons_succ, List.getElem_cons_zero]
        refine late_one (i := 4) (by kernel_rfl) rfl (fun K hK => ?_)
        rw [if_pos (by rfl)]
        refine wp_append_own _ _ _ 35 rfl (q + 1) 2 i0 _ 1 8 Try.underlying35 hi hz0 hz1 hz2 rfl (by decide) _ _ _ rfl (JJ.out.own.drew.alloc _) ⟨wr.heap.size, 0, none⟩ 1 1 [.int .i64 id] rfl rfl (one_news (by go_simp)) (fun u hu => by rw [List.mem_singleton] at hu; subst hu; rfl) (by unfold maxLen; omega) (by omega) (by simp; omega) ?_
        intro v1 wx hown1 hgr1 hnil1
        obtain ⟨a1, c1', rfl⟩ := own_slice hown1
        have hno : OnlyO (Value.slice ua n uc).ownBlock wr wx := OnlyO.trans (OnlyO.of_below (by go_grown)) (OnlyO.of_grown hgr1)
        have J1 := JJ.out.k.onlyO hno (fun g e' => by have := (JJ.out.own.lt g e').1; omega)
        have hx1 := hno.size
        have s0x := J1.p.c2
        have s1x := J1.o.c2
        refine hK.out _ _ ⟨s0x, s1x⟩ (fun hS => ?_)
        try simp only [Act.put, List.setIfInBounds_toArray, List.set_cons_zero, List.set_cons_succ, List.getElem_toArray, List.getElem_cons_succ, List.getElem_cons_zero]
        refine late_one (i := 11) (by kernel_rfl) rfl (fun K hK => ?_)
        rw [if_pos (by rfl)]
        refine wp_append_smp _ _ 35 rfl (q + 1) 2 i0 _ Try.underlying35 hi hz0 hz1 hz2 rfl _ _ _ rfl hown1 u (cap - n) w.heap.size zs rfl (HSM.out _ J1.hb) (by omega) (by omega) ?_
        intro v2 wy hown2 hgr2
        obtain ⟨a2, c2', rfl⟩ := own_slice hown2
        have hno2 : OnlyO (Value.slice a1 (n + 1) c1').ownBlock wx wy := OnlyO.of_grown hgr2
        have J2 := J1.onlyO hno2 (fun g e' => by have := (hown1.lt g e').1; omega)
        have JF : Hid (JSt w q wd fl f1 (a) xs cap (wy.setCell ⟨q, 2, none⟩ (.slice a2 (n + 1 + zs.length) c2')) (.slice a2 (n + 1 + zs.length) c2') (n + 1 + zs.length) (insI xs id)) := JK.put J2 (by rw [HINS.out, flatI_append, flatI_append]; exact hown2)
        have s0y := J2.p.c2
        have s1y := J2.o.c2
        have s2y := J2.of
        have hqy := J2.o.z
        refine hK.out _ _ ⟨s0y, s1y⟩ (fun hS => ?_)
        try simp only [Act.put, List.setIfInBounds_toArray, List.set_cons_zero, List.set_cons_succ, List.getElem_toArray, List.getElem_cons_succ, List.getElem_cons_zero]
        refine late_take (i := 12) (v := ?_) rfl (by kernel_rfl) (by kernel_rfl) (by kernel_rfl) (by kernel_rfl) (fun _ _ _ h => h) (Or.inl ⟨by rfl, ?_⟩) (by assumption) ?_
        rotate_left 1
        · (intro w' hSw; (try dsimp only at hSw); go_simp; try with_reducible rfl)
        try simp only [Act.put, List.setIfInBounds_toArray, List.set_cons_zero, List.set_cons_succ, List.getElem_toArray, List.getElem_cons_succ, List.getElem_cons_zero]
        refine late_last (by kernel_rfl) rfl (by kernel_rfl) (fun K hK => ?_)
        go_simp
        refine hK.out _ _ ?_
        try simp only [Act.put, List.setIfInBounds_toArray, List.set_cons_zero, List.set_cons_succ, List.getElem_toArray, List.getElem_cons_succ, List.getElem_cons_zero]
        obtain ⟨x9, hx9⟩ : ∃ x, x = wy.setCell ⟨q, 2, none⟩ (.slice a2 (n + 1 + zs.length) c2') := ⟨_, rfl⟩
        rw [← hx9] at JF ⊢
        clear hx9
        have v0 := JF.out.k.r.c0
        have v1 := JF.out.k.r.c1
        have v2 := JF.out.k.r.c2
        have vz := JF.out.k.rf
        have o0 := JF.out.k.o.c0
        have o1 := JF.out.k.o.c1
        have o2 := JF.out.k.o.c2
        have hb9 := JF.out.k.hb
        have ow9 := JF.out.own
        have iv9 : IV x9 (q + 1) (.slice a2 (n + 1 + zs.length) c2') (insI xs id) := own_intsN HIL.out.symm ow9
        go_wp2
        obtain ⟨y9, ey, cs, fzy, sz, hbel, hon⟩ := over3 (.int .i64 wd) (.int .i64 f1) (.slice a2 (n + 1 + zs.length) c2') (w := x9) (g := w.heap.size + 1) v0 v1 v2
        rw [← ey]
        refine bodyPost_ret (results_one rfl _ _ _ [.int .i64 wd, .int .i64 f1, .slice a2 (n + 1 + zs.length) c2'] rfl cs Try.underlying37 rfl (by kernel_rfl)) rfl ?_
        rw [← HF.out]
        exact ⟨_, _, _, rfl, row_lowI (row_only (show x9.ownsRow (q + 1) 2 1 (.slice a2 (n + 1 + zs.length) c2') (insI xs id).length (flatI (insI xs id)) by rw [HIL.out]; exact ow9) hon (by omega)) (by omega), hb9.trans (hbel _ (by omega))⟩
set_option maxHeartbeats 4000000 in
theorem specJoin_own {wd fl id : Int} {w : World} {a : Option Addr} (cap : Nat) {xs : List Int} (hp : plB wd fl xs = true) (hn : inQ 0 id 1000000 = true) (hh : hasI id xs = false) (h5 : xs.length < 50) (hc : xs.length ≤ cap) (smp : ISmp w.heap.size w a xs) : Calls Try.prog 17 #[.agg #[.int .i64 wd, .int .i64 fl, .slice a xs.length cap], .int .i64 id] w (AnsOT w (insI xs id) wd fl true) := by
  have hl := (pl_num hp).2.2
  have h5' : ¬ ((xs.length : Int) = 50) := by omega
  have h5b : ((xs.length : Int) == 50) = false := beq_eq_false_iff_ne.2 h5'
  go_enter Try.func17, Try.ntmps17
  go_wp2_with (first
    | (go_at_call 49; refine (specPlaceOk_is cap hp (smp.here (by go_grown))).mono ?_; rintro e w3 ⟨rfl, hbw3⟩; have hbw : Below w.heap.size w w3 := below_two (by go_grown) hbw3; have kc := below_cells4 hbw3; have kf := below_frozens4 hbw3; have zl := hbw3.size; (try simp at zl); have p0 : w3.cell? ⟨w.heap.size, 0, none⟩ = some (.int .i64 wd) := (kc _ _ (by simp; try omega)).trans (by go_simp); have p1 : w3.cell? ⟨w.heap.size, 1, none⟩ = some (.int .i64 fl) := (kc _ _ (by simp; try omega)).trans (by go_simp); have p2 : w3.cell? ⟨w.heap.size, 2, none⟩ = some (.slice a xs.length cap) := (kc _ _ (by simp; try omega)).trans (by go_simp); have v0 : w3.cell? ⟨w.heap.size + 1, 0, none⟩ = some (.int .i64 0) := (kc _ _ (by simp; try omega)).trans (by go_simp); have v1 : w3.cell? ⟨w.heap.size + 1, 1, none⟩ = some (.int .i64 0) := (kc _ _ (by simp; try omega)).trans (by go_simp); have v2 : w3.cell? ⟨w.heap.size + 1, 2, none⟩ = some (.slice none 0 0) := (kc _ _ (by simp; try omega)).trans (by go_simp); have vz : ∀ o : Nat, w3.frozen? ⟨w.heap.size + 1, o, none⟩ = false := (fun o => (kf _ _ (by simp; try omega)).trans (by go_simp)); clear kc kf)
    | (go_at_call 50; refine (inQ_is hn _).mono ?_; rintro e w4 ⟨rfl, rfl⟩)
    | (go_at_call 51; refine (has_is cap hh hl (smp.here hbw)).mono ?_; rintro e w5 ⟨rfl, hb5⟩; have hbw : Below w.heap.size w w5 := below_two hbw hb5; have p0 := (hb5.cell (p := ⟨w.heap.size, 0, none⟩) (by show w.heap.size < _; omega)).trans p0; have p1 := (hb5.cell (p := ⟨w.heap.size, 1, none⟩) (by show w.heap.size < _; omega)).trans p1; have p2 := (hb5.cell (p := ⟨w.heap.size, 2, none⟩) (by show w.heap.size < _; omega)).trans p2; have v0 := (hb5.cell (p := ⟨w.heap.size + 1, 0, none⟩) (by show w.heap.size + 1 < _; omega)).trans v0; have v1 := (hb5.cell (p := ⟨w.heap.size + 1, 1, none⟩) (by show w.heap.size + 1 < _; omega)).trans v1; have v2 := (hb5.cell (p := ⟨w.heap.size + 1, 2, none⟩) (by show w.heap.size + 1 < _; omega)).trans v2; have vz : ∀ o : Nat, w5.frozen? ⟨w.heap.size + 1, o, none⟩ = false := fun o => (hb5.frozen (p := ⟨w.heap.size + 1, o, none⟩) (by show w.heap.size + 1 < _; omega)).trans (vz o); have zl : w.heap.size + 1 + 1 ≤ w5.heap.size := Nat.le_trans zl hb5.size)
    | (go_at_call 52; refine (l13Join_own cap hl hc (smp.here hbw)).mono ?_; rintro e w6 ⟨a5, n5, c5, rfl, iv6, hb6⟩; have z6 := zl; have hbw : Below w.heap.size w w6 := below_two hbw hb6; have p0 := (hb6.cell (p := ⟨w.heap.size, 0, none⟩) (by show w.heap.size < _; omega)).trans p0; have p1 := (hb6.cell (p := ⟨w.heap.size, 1, none⟩) (by show w.heap.size < _; omega)).trans p1; have p2 := (hb6.cell (p := ⟨w.heap.size, 2, none⟩) (by show w.heap.size < _; omega)).trans p2; have v0 := (hb6.cell (p := ⟨w.heap.size + 1, 0, none⟩) (by show w.heap.size + 1 < _; omega)).trans v0; have v1 := (hb6.cell (p := ⟨w.heap.size + 1, 1, none⟩) (by show w.heap.size + 1 < _; omega)).trans v1; have v2 := (hb6.cell (p := ⟨w.heap.size + 1, 2, none⟩) (by show w.heap.size + 1 < _; omega)).trans v2; have vz : ∀ o : Nat, w6.frozen? ⟨w.heap.size + 1, o, none⟩ = false := fun o => (hb6.frozen (p := ⟨w.heap.size + 1, o, none⟩) (by show w.heap.size + 1 < _; omega)).trans (vz o); have zl : w.heap.size + 1 + 1 ≤ w6.heap.size := Nat.le_trans zl hb6.size))
  obtain ⟨y, ey, cs, fzy, sz, hbel, hon⟩ := over3 (.int .i64 wd) (.int .i64 fl) (.slice a5 n5 c5) (g := w.heap.size + 1) v0 v1 v2
  rw [← ey]
  refine bodyPost_ret (results_two rfl _ _ _ [.int .i64 wd, .int .i64 fl, .slice a5 n5 c5] rfl cs Try.underlying37 rfl (by kernel_rfl)) rfl ?_
  exact ⟨_, _, _, rfl, row_lowI (row_only iv6 hon (by omega)) (by omega), hbw.trans (hbel _ (by omega))⟩
theorem ansOT_zero {w : World} {e : Ending} {w' : World} (h : e = .returned (.tuple #[.agg #[.int .i64 0, .int .i64 0, .slice none 0 0], .bool false]) ∧ Below w.heap.size w w') : AnsOT w [] 0 0 false e w' := ⟨none, 0, 0, h.1, World.ownsRow_nil _ _ _ _, h.2⟩
theorem specJoin_some {wd fl id : Int} {w : World} {a : Option Addr} (cap : Nat) {xs : List Int} (hc : xs.length ≤ cap) (smp : ISmp w.heap.size w a xs) : Calls Try.prog 17 #[.agg #[.int .i64 wd, .int .i64 fl, .slice a xs.length cap], .int .i64 id] w fun e w' => ∃ (ys : List Int) (zd zf : Int) (zb : Bool), ys.length ≤ 50 ∧ AnsOT w ys zd zf zb e w' := by
  cases hp : plB wd fl xs
  · exact (specJoin_no0 cap hp smp).mono fun e w' k => ⟨[], 0, 0, false, by decide, ansOT_zero k⟩
  have hl := (pl_num hp).2.2
  cases hn : inQ 0 id 1000000
  · exact (specJoin_no1 cap hp hn smp).mono fun e w' k => ⟨[], 0, 0, false, by decide, ansOT_zero k⟩
  cases hh : hasI id xs
  · by_cases h5 : xs.length = 50
    · exact (specJoin_no3 cap hp hn hh h5 smp).mono fun e w' k => ⟨[], 0, 0, false, by decide, ansOT_zero k⟩
    · exact (specJoin_own cap hp hn hh (by omega) hc smp).mono fun e w' k => ⟨_, _, _, _, by rw [insI_many]; omega, k⟩
  · exact (specJoin_no2 cap hp hn hh smp).mono fun e w' k => ⟨[], 0, 0, false, by decide, ansOT_zero k⟩
end Go.Proofs.Ytoeiheccmpjclaf
