/- What impl.NewEngine answers. -/
import Derived.Test.YtibfclfidaofkasSpecNewEng
import Derived.Test.YtibfclfidaofkasConRow
import Derived.OwnWalk
import Derived.Test.YtibfclfidaofkasImplNew
import Derived.Test.YtibfclfidaofkasImplPlc
import Derived.Test.YtibfclfidaofkasLate
namespace Go.Proofs.Ytibfclfidaofkas
open Go.ChangeShapes Go.WideShapes Go.ChangeAt Go.RowKit
set_option maxRecDepth 100000
set_option linter.unusedVariables false
set_option linter.unusedSimpArgs false

theorem mul1 (n : Nat) (h : n ≤ 10) (w : World) : Calls Try.prog 84 #[.int .u64 1, .int .u64 (n : Int)] w fun e w' => e = .returned (.tuple #[.int .u64 0, .int .u64 (n : Int)]) ∧ w' = w := by
  have h : n = 0 ∨ n = 1 ∨ n = 2 ∨ n = 3 ∨ n = 4 ∨ n = 5 ∨ n = 6 ∨ n = 7 ∨ n = 8 ∨ n = 9 ∨ n = 10 := by omega
  rcases h with rfl | rfl | rfl | rfl | rfl | rfl | rfl | rfl | rfl | rfl | rfl <;>
    (go_enter Try.func84, Try.ntmps84
     go_wp2_with (go_in)
     go_ret2
     exact ⟨rfl, rfl⟩)
theorem copy3 {w : World} (ty : TypeId) (b o dLen dCap : Nat) (a : Addr) (sLen sCap : Nat) (cs : List Value) (k : Nat) (hk : k = Nat.min sLen dLen) (hl : cs.length = k * 3) (hsrc : ∀ j v, cs[j]? = some v → w.cell? (a.add j) = some v) (hc : ∀ j, j < cs.length → (w.cell? ⟨b, o + j, none⟩).isSome = true) (hf : ∀ j, j < cs.length → w.frozen? ⟨b, o + j, none⟩ = false) (h1 : ∀ v ∈ cs, v.oneCell' = true) :
    (Builtin.copy_ #[36, 36] ty #[.slice (some ⟨b, o, none⟩) dLen dCap, .slice (some a) sLen sCap]).run Try.prog w = .ok (goInt k) (w.setCells b o cs) := by
  have hld := run_loadCells_list (P := Try.prog) w a cs hsrc
  rw [hl] at hld
  have hst := run_storeCells_cells (P := Try.prog) b o cs 0 w (by simpa using hc) (by simpa using hf) h1
  simp only [Nat.add_zero] at hst
  obtain ⟨i0, hi, _, hz1, _⟩ := info_parts info_place
  have hsz : (sizeOf 67).run Try.prog w = .ok 3 w := by simp [sizeOf, typeInfo, hi, hz1]
  simp [Builtin.copy_, run_underlying Try.underlying36, Builtin.lenOf, Builtin.firstCells, hsz, ← hk, hld, hst]
theorem flatF_rep_one (k : Nat) : ∀ v ∈ flatF (List.replicate k newG), v.oneCell' = true := by
  intro v hv
  obtain ⟨x, hx, hv⟩ := List.mem_flatMap.1 hv
  rw [List.eq_of_mem_replicate hx] at hv
  simp only [newG, List.mem_cons, List.not_mem_nil, or_false] at hv
  rcases hv with rfl | rfl | rfl <;> rfl
theorem flatF_rep_length (k : Nat) : (flatF (List.replicate k newG)).length = k * 3 := by rw [flatF_length, List.length_replicate]
theorem rep_take {k m : Nat} (h : k ≤ m) : (flatF (List.replicate m newG)).take (k * 3) = flatF (List.replicate k newG) := by
  rw [show List.replicate m newG = List.replicate k newG ++ List.replicate (m - k) newG by rw [List.replicate_append_replicate]; congr 1; omega, flatF_append, List.take_append_of_le_length (by rw [flatF_rep_length]; exact Nat.le_refl _), List.take_of_length_le (by rw [flatF_rep_length]; exact Nat.le_refl _)]
theorem rep_step {xs : List Value} {m k : Nat} (h : xs.take (m * 3) = flatF (List.replicate m newG)) (hl : (m + k) * 3 ≤ xs.length) : (setL xs (m * 3) (flatF (List.replicate k newG))).take ((m + k) * 3) = flatF (List.replicate (m + k) newG) := by
  rw [← List.replicate_append_replicate, flatF_append, ← h]
  apply List.ext_getElem?
  intro j
  rw [List.getElem?_take, setL_get _ _ _ _ (by rw [flatF_rep_length]; omega), flatF_rep_length]
  have hml : (xs.take (m * 3)).length = m * 3 := by rw [List.length_take]; omega
  by_cases h1 : j < m * 3
  · rw [if_pos (by omega), if_neg (by omega), List.getElem?_append_left (by omega), List.getElem?_take, if_pos h1]
  · rw [List.getElem?_append_right (by omega), hml]
    by_cases h2 : j < (m + k) * 3
    · rw [if_pos h2, if_pos (by omega)]
    · rw [if_neg h2, List.getElem?_eq_none (by rw [flatF_rep_length]; omega)]
set_option maxHeartbeats 8000000 in
theorem repeat_any {w : World} {b n : Nat} (h1 : 1 ≤ n) (h10 : n ≤ 10) (hb : b < w.heap.size) (c0 : w.cell? ⟨b, 0, none⟩ = some (.int .i64 60000)) (c1 : w.cell? ⟨b, 1, none⟩ = some (.int .i64 0)) (c2 : w.cell? ⟨b, 2, none⟩ = some (.slice none 0 0)) :
    Calls Try.prog 43 #[.slice (some ⟨b, 0, none⟩) 1 1, .int .i64 (n : Int)] w fun e w' => ∃ v, e = .returned v ∧ w'.ownsRow w.heap.size 67 3 v n (flatF (List.replicate n newG)) ∧ Below w.heap.size w w' := by
  obtain ⟨i0, hi, hz0, hz1, hz2⟩ := info_parts info_place
  have hn0 : ¬ ((n : Int) < 0) := by omega
  have hn1 : (n : Int) ≤ 10 := by omega
  have hu : IntKind.u64.wrap (n : Int) = (n : Int) := by rw [IntKind.wrap_u64]; omega
  have hi64 : IntKind.i64.wrap (n : Int) = (n : Int) := by rw [IntKind.wrap_i64]; omega
  have hg : ¬ ((9223372036854775807 : Int) < (n : Int)) := by omega
  go_enter Try.func43, Try.ntmps43
  go_upto_region 7 with (first
    | (go_at_call 84; refine (mul1 n h10 _).mono ?_; rintro e w3 ⟨rfl, e3⟩; replace e3 := e3.symm; subst e3)
    | (at_make; refine wpList_make_full _ rfl _ _ 36 rfl w.heap.size 67 i0 _ 3 Try.underlying36 hi hz0 hz1 _ _ _ _ n rfl rfl rfl rfl (by rw [hz2]; omega) (by unfold maxLen; omega) (Nat.le_refl _) ?_; intro w1 own1 gr1))
  have b1 : Below w.heap.size w w1 := (Below.refl _ w).grown gr1 (Nat.le_refl _) (fun k hk => by cases hk)
  obtain ⟨xs, hxs⟩ : ∃ xs, (madeCells (Value.agg #[.int .i64 0, .int .i64 0, .slice none 0 0]).cells (n * 3)).toList = xs := ⟨_, rfl⟩
  have own1 : w1.ownsRow w.heap.size 67 3 (.slice (some ⟨w.heap.size, 0, none⟩) n n) n xs := by rw [← hxs]; exact own1
  clear hxs
  obtain ⟨g, hg⟩ : ∃ g, w.heap.size = g := ⟨_, rfl⟩
  have HG : Hid (w.heap.size = g) := hg
  rw [hg] at own1
  simp only [hg]
  clear hg
  have hbg : b < g := by have := HG.out; omega
  have xl := own1.1
  have hcp : ∀ ty, (Builtin.copy_ #[36, 36] ty #[.slice (some ⟨g, 0, none⟩) n n, .slice (some ⟨b, 0, none⟩) 1 1]).run Try.prog w1 = .ok (goInt 1) (w1.setCells g 0 (flatF (List.replicate 1 newG))) := fun ty => copy3 ty g 0 n n ⟨b, 0, none⟩ 1 1 _ 1 (by show 1 = min 1 n; omega) rfl (fun j v hv => by
      have e := three_newsE (w := w1) (g := b) ((b1.cell (by exact hb)).trans c0) ((b1.cell (by exact hb)).trans c1) ((b1.cell (by exact hb)).trans c2) j v hv
      exact e) (fun j hj => by rw [Nat.zero_add, own1.cellAt _ (by have hj : j < 3 := hj; omega), List.getElem?_eq_getElem (by have hj : j < 3 := hj; omega)]; rfl) (fun j hj => own1.frozenAt _) (flatF_rep_one 1)
  have R0 := row_setL (flatF (List.replicate 1 newG)) 0 w1 xs own1
  have T0 : Hid ((setL xs 0 (flatF (List.replicate 1 newG))).take (1 * 3) = flatF (List.replicate 1 newG)) := by
    have q := rep_step (xs := xs) (m := 0) (k := 1) rfl (by rw [xl]; omega)
    rw [Nat.zero_mul, Nat.zero_add] at q
    exact q
  have B0 : Below g w (w1.setCells g 0 (flatF (List.replicate 1 newG))) := HG.out ▸ belowK_set (Nat.le_of_eq HG.out) _ _ _ _ b1
  go_wp2
  go_loopw [8] (fun s wr => ∃ (m : Nat) (xs : List Value), s = .int .i64 (m : Int) ∧ 1 ≤ m ∧ m ≤ n ∧ Hid (wr.ownsRow g 67 3 (.slice (some ⟨g, 0, none⟩) n n) n xs) ∧ Hid (xs.take (m * 3) = flatF (List.replicate m newG)) ∧ Below g w wr) (fun s _ => n - (intOf s).toNat)
  case atStart => exact ⟨1, _, rfl, by omega, h1, R0, T0, B0⟩
  case round =>
    clear R0 T0 B0 hcp own1
    obtain ⟨m, ys, rfl, hm1, hmn, HO, HT, hbw⟩ := hrel
    by_cases hlt : m < n
    · have hlt' : (m : Int) < (n : Int) := by omega
      have hm0 : (0 : Int) ≤ (m : Int) := by omega
      have hle : (m : Int) ≤ (n : Int) := by omega
      have hnm : ¬ n = m := by omega
      obtain ⟨k, hk⟩ : ∃ k, Nat.min m (n - m) = k := ⟨_, rfl⟩
      have hk1 : 1 ≤ k ∧ k ≤ m ∧ k ≤ n - m := by rw [← hk]; exact ⟨by show 1 ≤ min m (n - m); omega, Nat.min_le_left _ _, Nat.min_le_right _ _⟩
      have yl := HO.out.1
      have hsrc : Hid (∀ j v, (flatF (List.replicate k newG))[j]? = some v → wr.drew.cell? ((⟨g, 0, none⟩ : Addr).add j) = some v) := fun j v hv => by
        rw [addr_add, Nat.zero_add]
        have hj := (List.getElem?_eq_some_iff.1 hv).1
        rw [flatF_rep_length] at hj
        refine (HO.out.cellAt j (by omega)).trans ?_
        have e : (ys.take (m * 3))[j]? = (flatF (List.replicate m newG))[j]? := by rw [HT.out]
        rw [List.getElem?_take, if_pos (by omega)] at e
        rw [e, ← hv, ← rep_take hk1.2.1, List.getElem?_take, if_pos (by omega)]
      have hcp : ∀ ty, (Builtin.copy_ #[36, 36] ty #[.slice (some ⟨g, m * 3, none⟩) (n - m) (n - m), .slice (some ⟨g, 0, none⟩) m n]).run Try.prog wr.drew = .ok (goInt k) (wr.drew.setCells g (m * 3) (flatF (List.replicate k newG))) := fun ty => copy3 ty g (m * 3) (n - m) (n - m) ⟨g, 0, none⟩ m n _ k hk.symm (flatF_rep_length k) hsrc.out (fun j hj => by
          rw [flatF_rep_length] at hj
          have q : wr.drew.cell? ⟨g, m * 3 + j, none⟩ = ys[m * 3 + j]? := HO.out.cellAt _ (by omega)
          rw [q, List.getElem?_eq_getElem (by omega)]
          rfl) (fun j hj => HO.out.frozenAt _) (flatF_rep_one k)
      have R1 : Hid ((wr.drew.setCells g (m * 3) (flatF (List.replicate k newG))).ownsRow g 67 3 (.slice (some ⟨g, 0, none⟩) n n) n (setL ys (m * 3) (flatF (List.replicate k newG)))) := row_setL _ _ _ _ (row_next HO.out ((Below.refl _ _).drew))
      have T1 : Hid ((setL ys (m * 3) (flatF (List.replicate k newG))).take ((m + k) * 3) = flatF (List.replicate (m + k) newG)) := rep_step HT.out (by rw [yl]; omega)
      have B1 : Below g w (wr.drew.setCells g (m * 3) (flatF (List.replicate k newG))) := belowK_set (Nat.le_refl _) _ _ _ _ hbw.drew
      have HK1 : Hid (1 ≤ k ∧ k ≤ m ∧ k ≤ n - m) := hk1
      have hw1 : IntKind.i64.wrap ((m : Int) + (k : Int)) = ((m + k : Nat) : Int) := by rw [IntKind.wrap_i64]; omega
      clear hk hk1 hsrc
      go_upto_region 9 with (fail)
      refine wp_region_held_drew (S := fun _ => True) (by kernel_rfl) trivial (fun hS => ?_)
      refine wpAnyH_take (i := 0) (v := ?_) rfl (by kernel_rfl) (by kernel_rfl) (by kernel_rfl) (fun _ _ _ h => h) (Or.inl ⟨by rfl, ?_⟩) (by assumption) ?_
      rotate_left 1
      · (intro w' hSw; (try dsimp only at hSw); go_simp; try with_reducible rfl)
      try simp only [Act.put, List.setIfInBounds_toArray, List.set_cons_zero, List.set_cons_succ, List.getElem_toArray, List.getElem_cons_succ, List.getElem_cons_zero]
      refine wpAnyH_take (i := 1) (v := ?_) rfl (by kernel_rfl) (by kernel_rfl) (by kernel_rfl) (fun _ _ _ h => h) (Or.inl ⟨by rfl, ?_⟩) (by assumption) ?_
      rotate_left 1
      · (intro w' hSw; (try dsimp only at hSw); go_simp; try with_reducible rfl)
      try simp only [Act.put, List.setIfInBounds_toArray, List.set_cons_zero, List.set_cons_succ, List.getElem_toArray, List.getElem_cons_succ, List.getElem_cons_zero]
      refine wpAnyH_take (i := 2) (v := ?_) rfl (by kernel_rfl) (by kernel_rfl) (by kernel_rfl) (fun _ _ _ h => h) (Or.inl ⟨by rfl, ?_⟩) (by assumption) ?_
      rotate_left 1
      · (intro w' hSw; (try dsimp only at hSw); go_simp; try with_reducible rfl)
      try simp only [Act.put, List.setIfInBounds_toArray, List.set_cons_zero, List.set_cons_succ, List.getElem_toArray, List.getElem_cons_succ, List.getElem_cons_zero]
      refine wpAnyH_take (i := 3) (v := ?_) rfl (by kernel_rfl) (by kernel_rfl) (by kernel_rfl) (fun _ _ _ h => h) (Or.inl ⟨by rfl, ?_⟩) (by assumption) ?_
      rotate_left 1
      · (intro w' hSw; (try dsimp only at hSw); go_simp; try with_reducible rfl)
      try simp only [Act.put, List.setIfInBounds_toArray, List.set_cons_zero, List.set_cons_succ, List.getElem_toArray, List.getElem_cons_succ, List.getElem_cons_zero]
      refine wpAnyH_take (i := 4) (v := ?_) rfl (by kernel_rfl) (by kernel_rfl) (by kernel_rfl) (fun _ _ _ h => h) (Or.inl ⟨by rfl, ?_⟩) (by assumption) ?_
      rotate_left 1
      · (intro w' hSw; (try dsimp only at hSw); go_simp; try with_reducible rfl)
      try simp only [Act.put, List.setIfInBounds_toArray, List.set_cons_zero, List.set_cons_succ, List.getElem_toArray, List.getElem_cons_succ, List.getElem_cons_zero]
      refine wpAnyH_take (i := 5) (v := ?_) rfl (by kernel_rfl) (by kernel_rfl) (by kernel_rfl) (fun _ _ _ h => h) (Or.inl ⟨by rfl, ?_⟩) (by assumption) ?_
      rotate_left 1
      · (intro w' hSw; (try dsimp only at hSw); go_simp; try with_reducible rfl)
      try simp only [Act.put, List.setIfInBounds_toArray, List.set_cons_zero, List.set_cons_succ, List.getElem_toArray, List.getElem_cons_succ, List.getElem_cons_zero]
      refine wpAnyH_take (i := 6) (v := ?_) rfl (by kernel_rfl) (by kernel_rfl) (by kernel_rfl) (fun _ _ _ h => h) (Or.inl ⟨by rfl, ?_⟩) (by assumption) ?_
      rotate_left 1
      · (intro w' hSw; (try dsimp only at hSw); go_simp; try with_reducible rfl)
      try simp only [Act.put, List.setIfInBounds_toArray, List.set_cons_zero, List.set_cons_succ, List.getElem_toArray, List.getElem_cons_succ, List.getElem_cons_zero]
      refine wpAnyH_ready (rs := [7]) (by kernel_rfl) (by simp) (AllReadyH.cons rfl (fun Kr hKr => ?_) AllReadyH.nil)
      go_simp
      refine hKr.out _ _ trivial (fun _ => ?_)
      try simp only [Act.put, List.setIfInBounds_toArray, List.set_cons_zero, List.set_cons_succ, List.getElem_toArray, List.getElem_cons_succ, List.getElem_cons_zero]
      refine wpAnyH_take (i := 8) (v := ?_) rfl (by kernel_rfl) (by kernel_rfl) (by kernel_rfl) (fun _ _ _ h => h) (Or.inl ⟨by rfl, ?_⟩) (by assumption) ?_
      rotate_left 1
      · (intro w' hSw; (try dsimp only at hSw); go_simp; try with_reducible rfl)
      try simp only [Act.put, List.setIfInBounds_toArray, List.set_cons_zero, List.set_cons_succ, List.getElem_toArray, List.getElem_cons_succ, List.getElem_cons_zero]
      refine wpAnyH_take (i := 9) (v := ?_) rfl (by kernel_rfl) (by kernel_rfl) (by kernel_rfl) (fun _ _ _ h => h) (Or.inl ⟨by rfl, ?_⟩) (by assumption) ?_
      rotate_left 1
      · (intro w' hSw; (try dsimp only at hSw); go_simp; try with_reducible rfl)
      try simp only [Act.put, List.setIfInBounds_toArray, List.set_cons_zero, List.set_cons_succ, List.getElem_toArray, List.getElem_cons_succ, List.getElem_cons_zero]
      refine wpAnyH_done (by kernel_rfl) ?_ _
      go_wp2
      go_roundw
      case rel => exact ⟨m + k, _, by first | rw [hw1] | rfl, by omega, by have := HK1.out; omega, R1, T1, B1⟩
      case measure => have := HK1.out; simp [intOf]; omega
    · have e : m = n := by omega
      subst e
      go_wp2
      go_ret
      refine ⟨_, rfl, ?_, by rw [HG.out]; exact hbw⟩
      have q := HO.out
      have e : ys = flatF (List.replicate m newG) := by rw [← HT.out, List.take_of_length_le (by rw [q.1]; exact Nat.le_refl _)]
      rw [← e, HG.out]
      exact q
set_option maxHeartbeats 4000000 in
theorem implNewEng_no1 {w : World} {aT : Option Addr} (cT : Nat) {T : List Q4} (n : Int) (hT : Quad w.heap.size w aT T) (h1 : newB_LendMath T 0 = false) : Calls Try.prog 13 #[.slice aT T.length cT, .int .i64 n] w (EgPost w 0 0 [] [] [] [] [] (.bool false)) := by
  have nb : Below w.heap.size w (w.alloc (.cells #[.int .i64 0, .slice none 0 0, .slice none 0 0, .slice none 0 0, .slice none 0 0, .slice none 0 0, .int .i64 0] 39)) := new_below _ _
  have L0 : Lay (w.alloc (.cells #[.int .i64 0, .slice none 0 0, .slice none 0 0, .slice none 0 0, .slice none 0 0, .slice none 0 0, .int .i64 0] 39)) w.heap.size [.int .i64 0, .slice none 0 0, .slice none 0 0, .slice none 0 0, .slice none 0 0, .slice none 0 0, .int .i64 0] := lay_new [.int .i64 0, .slice none 0 0, .slice none 0 0, .slice none 0 0, .slice none 0 0, .slice none 0 0, .int .i64 0] _ rfl
  go_enter Try.func13, Try.ntmps13
  go_upto_region 3 with (first | (go_at_call 42; refine (iNewLend_any cT 0 (hT.here nb)).mono ?_; rintro e w2 ⟨a1, n1, c1, a2, n2, c2, a3, n3, c3, rfl, lv, hb2⟩; rw [h1]))
  obtain ⟨x, hx⟩ : ∃ x, x = w2.alloc (.cells #[.slice a1 n1 c1, .slice a2 n2 c2, .slice a3 n3 c3] 35) := ⟨_, rfl⟩
  rw [← hx]
  have bx : Below w2.heap.size w2 x := by rw [hx]; exact new_below _ _
  clear hx
  have LX := (L0.next hb2).next bx
  have z0 : x.cell? ⟨w.heap.size, 0, none⟩ = some (.int .i64 0) := LX.cell 0 _ rfl
  have z1 : x.cell? ⟨w.heap.size, 1, none⟩ = some (.slice none 0 0) := LX.cell 1 _ rfl
  have z2 : x.cell? ⟨w.heap.size, 2, none⟩ = some (.slice none 0 0) := LX.cell 2 _ rfl
  have z3 : x.cell? ⟨w.heap.size, 3, none⟩ = some (.slice none 0 0) := LX.cell 3 _ rfl
  have z4 : x.cell? ⟨w.heap.size, 4, none⟩ = some (.slice none 0 0) := LX.cell 4 _ rfl
  have z5 : x.cell? ⟨w.heap.size, 5, none⟩ = some (.slice none 0 0) := LX.cell 5 _ rfl
  have z6 : x.cell? ⟨w.heap.size, 6, none⟩ = some (.int .i64 0) := LX.cell 6 _ rfl
  have fz := LX.free
  go_wp2
  obtain ⟨u, hu⟩ : ∃ u, u = x.setCells (w.heap.size) 0 [.int .i64 0, .slice none 0 0, .slice none 0 0, .slice none 0 0, .slice none 0 0, .slice none 0 0, .int .i64 0] := ⟨_, rfl⟩
  have hu' : (((((((x.setCell ⟨w.heap.size, 0, none⟩ (.int .i64 0)).setCell ⟨w.heap.size, 1, none⟩ (.slice none 0 0)).setCell ⟨w.heap.size, 2, none⟩ (.slice none 0 0)).setCell ⟨w.heap.size, 3, none⟩ (.slice none 0 0)).setCell ⟨w.heap.size, 4, none⟩ (.slice none 0 0)).setCell ⟨w.heap.size, 5, none⟩ (.slice none 0 0)).setCell ⟨w.heap.size, 6, none⟩ (.int .i64 0)) = u := hu.symm
  rw [hu']
  clear hu'
  have ou : Only (w.heap.size) x u := by rw [hu]; exact onlyCells _ _ _
  have U : Lay u (w.heap.size) [.int .i64 0, .slice none 0 0, .slice none 0 0, .slice none 0 0, .slice none 0 0, .slice none 0 0, .int .i64 0] := by rw [hu]; exact LX.put (p := []) (q := [.int .i64 0, .slice none 0 0, .slice none 0 0, .slice none 0 0, .slice none 0 0, .slice none 0 0, .int .i64 0]) (r := []) [.int .i64 0, .slice none 0 0, .slice none 0 0, .slice none 0 0, .slice none 0 0, .slice none 0 0, .int .i64 0] rfl
  clear hu
  have bw := below_two (below_two nb hb2) bx
  have zw := bw.size
  have zu := ou.size
  refine bodyPost_ret (results_two rfl _ _ _ [.int .i64 0, .slice none 0 0, .slice none 0 0, .slice none 0 0, .slice none 0 0, .slice none 0 0, .int .i64 0] rfl U.cell Try.underlying39 rfl (by kernel_rfl)) rfl ?_
  exact ⟨_, _, _, _, _, _, _, _, _, _, rfl, eng_zero (by omega) (Nat.le_refl _), bw.trans (ou.below (Nat.le_refl _) bw.size)⟩
set_option maxHeartbeats 4000000 in
theorem implNewEng_no2 {w : World} {aT : Option Addr} (cT : Nat) {T : List Q4} (n : Int) (hT : Quad w.heap.size w aT T) (h1 : newB_LendMath T 0 = true) (h2 : inQ 1 n 10 = false) : Calls Try.prog 13 #[.slice aT T.length cT, .int .i64 n] w (EgPost w 0 0 [] [] [] [] [] (.bool false)) := by
  have nb : Below w.heap.size w (w.alloc (.cells #[.int .i64 0, .slice none 0 0, .slice none 0 0, .slice none 0 0, .slice none 0 0, .slice none 0 0, .int .i64 0] 39)) := new_below _ _
  have L0 : Lay (w.alloc (.cells #[.int .i64 0, .slice none 0 0, .slice none 0 0, .slice none 0 0, .slice none 0 0, .slice none 0 0, .int .i64 0] 39)) w.heap.size [.int .i64 0, .slice none 0 0, .slice none 0 0, .slice none 0 0, .slice none 0 0, .slice none 0 0, .int .i64 0] := lay_new [.int .i64 0, .slice none 0 0, .slice none 0 0, .slice none 0 0, .slice none 0 0, .slice none 0 0, .int .i64 0] _ rfl
  go_enter Try.func13, Try.ntmps13
  go_upto_region 3 with (first | (go_at_call 42; refine (iNewLend_any cT 0 (hT.here nb)).mono ?_; rintro e w2 ⟨a1, n1, c1, a2, n2, c2, a3, n3, c3, rfl, lv, hb2⟩; rw [h1]) | (go_at_call 30; refine (iQ_is h2 _).mono ?_; rintro e w3 ⟨rfl, e3⟩; replace e3 := e3.symm; subst e3))
  obtain ⟨x, hx⟩ : ∃ x, x = w2.alloc (.cells #[.slice a1 n1 c1, .slice a2 n2 c2, .slice a3 n3 c3] 35) := ⟨_, rfl⟩
  rw [← hx]
  have bx : Below w2.heap.size w2 x := by rw [hx]; exact new_below _ _
  clear hx
  have LX := (L0.next hb2).next bx
  have z0 : x.cell? ⟨w.heap.size, 0, none⟩ = some (.int .i64 0) := LX.cell 0 _ rfl
  have z1 : x.cell? ⟨w.heap.size, 1, none⟩ = some (.slice none 0 0) := LX.cell 1 _ rfl
  have z2 : x.cell? ⟨w.heap.size, 2, none⟩ = some (.slice none 0 0) := LX.cell 2 _ rfl
  have z3 : x.cell? ⟨w.heap.size, 3, none⟩ = some (.slice none 0 0) := LX.cell 3 _ rfl
  have z4 : x.cell? ⟨w.heap.size, 4, none⟩ = some (.slice none 0 0) := LX.cell 4 _ rfl
  have z5 : x.cell? ⟨w.heap.size, 5, none⟩ = some (.slice none 0 0) := LX.cell 5 _ rfl
  have z6 : x.cell? ⟨w.heap.size, 6, none⟩ = some (.int .i64 0) := LX.cell 6 _ rfl
  have fz := LX.free
  go_wp2
  obtain ⟨u, hu⟩ : ∃ u, u = x.setCells (w.heap.size) 0 [.int .i64 0, .slice none 0 0, .slice none 0 0, .slice none 0 0, .slice none 0 0, .slice none 0 0, .int .i64 0] := ⟨_, rfl⟩
  have hu' : (((((((x.setCell ⟨w.heap.size, 0, none⟩ (.int .i64 0)).setCell ⟨w.heap.size, 1, none⟩ (.slice none 0 0)).setCell ⟨w.heap.size, 2, none⟩ (.slice none 0 0)).setCell ⟨w.heap.size, 3, none⟩ (.slice none 0 0)).setCell ⟨w.heap.size, 4, none⟩ (.slice none 0 0)).setCell ⟨w.heap.size, 5, none⟩ (.slice none 0 0)).setCell ⟨w.heap.size, 6, none⟩ (.int .i64 0)) = u := hu.symm
  rw [hu']
  clear hu'
  have ou : Only (w.heap.size) x u := by rw [hu]; exact onlyCells _ _ _
  have U : Lay u (w.heap.size) [.int .i64 0, .slice none 0 0, .slice none 0 0, .slice none 0 0, .slice none 0 0, .slice none 0 0, .int .i64 0] := by rw [hu]; exact LX.put (p := []) (q := [.int .i64 0, .slice none 0 0, .slice none 0 0, .slice none 0 0, .slice none 0 0, .slice none 0 0, .int .i64 0]) (r := []) [.int .i64 0, .slice none 0 0, .slice none 0 0, .slice none 0 0, .slice none 0 0, .slice none 0 0, .int .i64 0] rfl
  clear hu
  have bw := below_two (below_two nb hb2) bx
  have zw := bw.size
  have zu := ou.size
  refine bodyPost_ret (results_two rfl _ _ _ [.int .i64 0, .slice none 0 0, .slice none 0 0, .slice none 0 0, .slice none 0 0, .slice none 0 0, .int .i64 0] rfl U.cell Try.underlying39 rfl (by kernel_rfl)) rfl ?_
  exact ⟨_, _, _, _, _, _, _, _, _, _, rfl, eng_zero (by omega) (Nat.le_refl _), bw.trans (ou.below (Nat.le_refl _) bw.size)⟩
set_option maxHeartbeats 8000000 in
theorem implNewEng_go {w : World} {aT : Option Addr} (cT : Nat) {T : List Q4} (n : Nat) (hT : Quad w.heap.size w aT T) (h1 : newB_LendMath T 0 = true) (h2 : inQ 1 (n : Int) 10 = true) : Calls Try.prog 13 #[.slice aT T.length cT, .int .i64 (n : Int)] w (EgPost w 0 0 (newT T 0) (newO T 0) (newP T 0) (List.replicate n newPl) [] (.bool true)) := by
  have hn : 1 ≤ n ∧ n ≤ 10 := by
    unfold inQ at h2
    simp only [Bool.and_eq_true, decide_eq_true_eq] at h2
    omega
  have nb : Below w.heap.size w (w.alloc (.cells #[.int .i64 0, .slice none 0 0, .slice none 0 0, .slice none 0 0, .slice none 0 0, .slice none 0 0, .int .i64 0] 39)) := new_below _ _
  have L0 : Lay (w.alloc (.cells #[.int .i64 0, .slice none 0 0, .slice none 0 0, .slice none 0 0, .slice none 0 0, .slice none 0 0, .int .i64 0] 39)) w.heap.size [.int .i64 0, .slice none 0 0, .slice none 0 0, .slice none 0 0, .slice none 0 0, .slice none 0 0, .int .i64 0] := lay_new [.int .i64 0, .slice none 0 0, .slice none 0 0, .slice none 0 0, .slice none 0 0, .slice none 0 0, .int .i64 0] _ rfl
  go_enter Try.func13, Try.ntmps13
  go_upto_region 4 with (first | (go_at_call 42; refine (iNewLend_any cT 0 (hT.here nb)).mono ?_; rintro e w2 ⟨a1, n1, c1, a2, n2, c2, a3, n3, c3, rfl, lv, hb2⟩; rw [h1]) | (go_at_call 30; refine (iQ_is h2 _).mono ?_; rintro e w3 ⟨rfl, e3⟩; replace e3 := e3.symm; subst e3))
  obtain ⟨x, hx⟩ : ∃ x, x = w2.alloc (.cells #[.slice a1 n1 c1, .slice a2 n2 c2, .slice a3 n3 c3] 35) := ⟨_, rfl⟩
  rw [← hx]
  have bx : Below w2.heap.size w2 x := by rw [hx]; exact new_below _ _
  have LL : Lay x w2.heap.size [.slice a1 n1 c1, .slice a2 n2 c2, .slice a3 n3 c3] := by rw [hx]; exact lay_new [.slice a1 n1 c1, .slice a2 n2 c2, .slice a3 n3 c3] _ rfl
  clear hx
  have LX := (L0.next hb2).next bx
  have bw := below_two (below_two nb hb2) bx
  have lvx := lv.next bx
  have LVB : Hid (∀ b, inL (.slice a1 n1 c1) (.slice a2 n2 c2) (.slice a3 n3 c3) b → b < w2.heap.size) := fun b hb => (lv.lo hb).2
  have z2 := hb2.size
  have zx := bx.size
  have znb : w.heap.size < (w.alloc (.cells #[.int .i64 0, .slice none 0 0, .slice none 0 0, .slice none 0 0, .slice none 0 0, .slice none 0 0, .int .i64 0] 39)).heap.size := by simp
  have hw2 : w.heap.size < w2.heap.size := by omega
  clear L0 lv
  have HS : Hid (∀ w', Below x.heap.size x w' → (fun w' => w'.cell? ⟨w2.heap.size, 0, none⟩ = some (.slice a1 n1 c1) ∧ w'.cell? ⟨w2.heap.size, 1, none⟩ = some (.slice a2 n2 c2) ∧ w'.cell? ⟨w2.heap.size, 2, none⟩ = some (.slice a3 n3 c3)) w') := fun w' h => ⟨(LL.next h).cell 0 _ rfl, (LL.next h).cell 1 _ rfl, (LL.next h).cell 2 _ rfl⟩
  refine wp_region_held_drew (S := fun w' => w'.cell? ⟨w2.heap.size, 0, none⟩ = some (.slice a1 n1 c1) ∧ w'.cell? ⟨w2.heap.size, 1, none⟩ = some (.slice a2 n2 c2) ∧ w'.cell? ⟨w2.heap.size, 2, none⟩ = some (.slice a3 n3 c3)) (by kernel_rfl) (HS.out _ (Below.refl _ _).drew) (fun hS => ?_)
  refine wpAnyH_take (i := 0) (v := ?_) rfl (by kernel_rfl) (by kernel_rfl) (by kernel_rfl) (fun _ _ _ h => h) (Or.inl ⟨by rfl, ?_⟩) (by assumption) ?_
  rotate_left 1
  · (intro w' hSw; (try dsimp only at hSw); go_simp; try with_reducible rfl)
  try simp only [Act.put, List.setIfInBounds_toArray, List.set_cons_zero, List.set_cons_succ, List.getElem_toArray, List.getElem_cons_succ, List.getElem_cons_zero]
  refine wpAnyH_take (i := 1) (v := ?_) rfl (by kernel_rfl) (by kernel_rfl) (by kernel_rfl) (fun _ _ _ h => h) (Or.inl ⟨by rfl, ?_⟩) (by assumption) ?_
  rotate_left 1
  · (intro w' hSw; (try dsimp only at hSw); go_simp; try with_reducible rfl)
  try simp only [Act.put, List.setIfInBounds_toArray, List.set_cons_zero, List.set_cons_succ, List.getElem_toArray, List.getElem_cons_succ, List.getElem_cons_zero]
  refine wpAnyH_take (i := 3) (v := ?_) rfl (by kernel_rfl) (by kernel_rfl) (by kernel_rfl) (fun _ _ _ h => h) (Or.inl ⟨by rfl, ?_⟩) (by assumption) ?_
  rotate_left 1
  · (intro w' hSw; (try dsimp only at hSw); go_simp; try with_reducible rfl)
  try simp only [Act.put, List.setIfInBounds_toArray, List.set_cons_zero, List.set_cons_succ, List.getElem_toArray, List.getElem_cons_succ, List.getElem_cons_zero]
  refine wpAnyH_ready (rs := [2]) (by kernel_rfl) (by simp) (AllReadyH.cons rfl (fun Kr hKr => ?_) AllReadyH.nil)
  go_simp
  refine hKr.out _ _ (HS.out _ (((Below.refl _ x).drew).alloc (Nat.le_refl _) _)) (fun hS => ?_)
  try simp only [Act.put, List.setIfInBounds_toArray, List.set_cons_zero, List.set_cons_succ, List.getElem_toArray, List.getElem_cons_succ, List.getElem_cons_zero]
  refine wpAnyH_ready (rs := [4]) (by kernel_rfl) (by simp) (AllReadyH.cons rfl (fun Kr hKr => ?_) AllReadyH.nil)
  go_simp
  (refine (repeat_any hn.1 hn.2 (by simp) (by go_simp) (by go_simp) (by go_simp)).mono ?_; rintro e u1 ⟨vq, rfl, hown, hb1⟩; obtain ⟨av, cv, rfl⟩ := own_slice hown; have hbx : Below x.heap.size x u1 := below_two (((Below.refl _ x).drew).alloc (Nat.le_refl _) _) hb1; have hS1 := HS.out _ hbx; have LU := LX.next hbx; have LE := LL.next hbx; have z0 : u1.cell? ⟨w.heap.size, 0, none⟩ = some (.int .i64 0) := LU.cell 0 _ rfl; have z1 : u1.cell? ⟨w.heap.size, 1, none⟩ = some (.slice none 0 0) := LU.cell 1 _ rfl; have z2 : u1.cell? ⟨w.heap.size, 2, none⟩ = some (.slice none 0 0) := LU.cell 2 _ rfl; have z3 : u1.cell? ⟨w.heap.size, 3, none⟩ = some (.slice none 0 0) := LU.cell 3 _ rfl; have z4 : u1.cell? ⟨w.heap.size, 4, none⟩ = some (.slice none 0 0) := LU.cell 4 _ rfl; have z5 : u1.cell? ⟨w.heap.size, 5, none⟩ = some (.slice none 0 0) := LU.cell 5 _ rfl; have z6 : u1.cell? ⟨w.heap.size, 6, none⟩ = some (.int .i64 0) := LU.cell 6 _ rfl; have fz := LU.free)
  refine hKr.out _ _ (by assumption) (fun _ => ?_)
  try simp only [Act.put, List.setIfInBounds_toArray, List.set_cons_zero, List.set_cons_succ, List.getElem_toArray, List.getElem_cons_succ, List.getElem_cons_zero]
  refine wpAnyH_take (i := 5) (v := ?_) rfl (by kernel_rfl) (by kernel_rfl) (by kernel_rfl) (fun _ _ _ h => h) (Or.inl ⟨by rfl, ?_⟩) (by assumption) ?_
  rotate_left 1
  · (intro w' hSw; (try dsimp only at hSw); go_simp; try with_reducible rfl)
  try simp only [Act.put, List.setIfInBounds_toArray, List.set_cons_zero, List.set_cons_succ, List.getElem_toArray, List.getElem_cons_succ, List.getElem_cons_zero]
  refine wpAnyH_ready (rs := [6]) (by kernel_rfl) (by simp) (AllReadyH.cons rfl (fun Kr hKr => ?_) AllReadyH.nil)
  go_simp
  obtain ⟨u, hu⟩ : ∃ u, u = u1.setCells (w.heap.size) 0 [.int .i64 0, .slice a1 n1 c1, .slice a2 n2 c2, .slice a3 n3 c3, .slice av n cv, .slice none 0 0, .int .i64 0] := ⟨_, rfl⟩
  have hu' : (((((((u1.setCell ⟨w.heap.size, 0, none⟩ (.int .i64 0)).setCell ⟨w.heap.size, 1, none⟩ (.slice a1 n1 c1)).setCell ⟨w.heap.size, 2, none⟩ (.slice a2 n2 c2)).setCell ⟨w.heap.size, 3, none⟩ (.slice a3 n3 c3)).setCell ⟨w.heap.size, 4, none⟩ (.slice av n cv)).setCell ⟨w.heap.size, 5, none⟩ (.slice none 0 0)).setCell ⟨w.heap.size, 6, none⟩ (.int .i64 0)) = u := hu.symm
  rw [hu']
  clear hu'
  have ou : Only (w.heap.size) u1 u := by rw [hu]; exact onlyCells _ _ _
  have U : Lay u (w.heap.size) [.int .i64 0, .slice a1 n1 c1, .slice a2 n2 c2, .slice a3 n3 c3, .slice av n cv, .slice none 0 0, .int .i64 0] := by rw [hu]; exact LU.put (p := []) (q := [.int .i64 0, .slice none 0 0, .slice none 0 0, .slice none 0 0, .slice none 0 0, .slice none 0 0, .int .i64 0]) (r := []) [.int .i64 0, .slice a1 n1 c1, .slice a2 n2 c2, .slice a3 n3 c3, .slice av n cv, .slice none 0 0, .int .i64 0] rfl
  clear hu
  have LE2 := LE.only ou (by omega)
  refine hKr.out _ _ ⟨LE2.cell 0 _ rfl, LE2.cell 1 _ rfl, LE2.cell 2 _ rfl⟩ (fun hS => ?_)
  try simp only [Act.put, List.setIfInBounds_toArray, List.set_cons_zero, List.set_cons_succ, List.getElem_toArray, List.getElem_cons_succ, List.getElem_cons_zero]
  refine wpAnyH_take (i := 7) (v := ?_) rfl (by kernel_rfl) (by kernel_rfl) (by kernel_rfl) (fun _ _ _ h => h) (Or.inl ⟨by rfl, ?_⟩) (by assumption) ?_
  rotate_left 1
  · (intro w' hSw; (try dsimp only at hSw); go_simp; try with_reducible rfl)
  try simp only [Act.put, List.setIfInBounds_toArray, List.set_cons_zero, List.set_cons_succ, List.getElem_toArray, List.getElem_cons_succ, List.getElem_cons_zero]
  refine wpAnyH_done (by kernel_rfl) ?_ _
  go_wp2
  have e1 := (lvx.t.quad).1
  have e2 := (lvx.o.quad).1
  have e3 := (lvx.p.quad).1
  have zu := ou.size
  have hbs := hbx.size
  have hyx : x.heap.size ≤ (x.alloc (.cells #[.int .i64 60000, .int .i64 0, .slice none 0 0] 67)).drew.heap.size := by simp
  have hyu := hb1.size
  have lr := lvx.next hbx
  have lu : LV u _ (.slice a1 n1 c1) (.slice a2 n2 c2) (.slice a3 n3 c3) (newT T 0) (newO T 0) (newP T 0) := lr.onlyP (p := fun k => k = w.heap.size) ⟨ou.os, ou.tape, ou.output, ou.size, fun k hk hn => ou.block k hk hn⟩ (fun b e e' => by have := (lvx.t.own e).1; omega) (fun b e e' => by have := (lvx.o.own e).1; omega) (fun b e e' => by have := (lvx.p.own e).1; omega)
  have tp := row_places hown
  have tu : TV u (x.alloc (.cells #[.int .i64 60000, .int .i64 0, .slice none 0 0] 67)).drew.heap.size u1.heap.size (.slice av n cv) (List.replicate n newPl) := tp.same ou.size (fun b a1 a2 a3 => ou.block b a3 (by omega))
  have bwr : Below w.heap.size w u1 := below_two bw hbx
  refine bodyPost_ret (results_two rfl _ _ _ [.int .i64 0, .slice a1 n1 c1, .slice a2 n2 c2, .slice a3 n3 c3, .slice av n cv, .slice none 0 0, .int .i64 0] rfl U.cell Try.underlying39 rfl (by kernel_rfl)) rfl ?_
  refine ⟨a1, c1, a2, c2, a3, c3, av, cv, none, 0, by rw [← e1, ← e2, ← e3, List.length_replicate]; rfl, ?_, bwr.trans (ou.below (Nat.le_refl _) bwr.size)⟩
  rw [← e1, ← e2, ← e3, List.length_replicate]
  exact ⟨_, w2.heap.size, _, u1.heap.size, x.heap.size, x.heap.size, ⟨by omega, by omega, by omega⟩, ⟨by omega, by omega, by omega⟩, lu, (fun b hb => LVB.out b hb), tu, KV.zero _ _ _ _ _, .inl (by omega), .inl (by omega), .inr (by omega), by omega, by omega, by omega⟩
theorem implNewEng_any {w : World} {aT : Option Addr} (cT : Nat) {T : List Q4} (n : Int) (hT : Quad w.heap.size w aT T) : Calls Try.prog 13 #[.slice aT T.length cT, .int .i64 n] w (EgPost w 0 0 (nwT T n) (nwO T n) (nwP T n) (nwL T n) [] (.bool (nwB T n))) := by
  unfold nwT nwO nwP nwL
  cases h1 : newB_LendMath T 0
  · have e : nwB T n = false := by unfold nwB; rw [h1]; rfl
    rw [e]
    exact implNewEng_no1 cT n hT h1
  cases h2 : inQ 1 n 10
  · have e : nwB T n = false := by unfold nwB; rw [h1, h2]; rfl
    rw [e]
    exact implNewEng_no2 cT n hT h1 h2
  have e : nwB T n = true := by unfold nwB; rw [h1, h2]; rfl
  rw [e]
  obtain ⟨m, rfl⟩ : ∃ m : Nat, n = m := ⟨n.toNat, by unfold inQ at h2; simp only [Bool.and_eq_true, decide_eq_true_eq] at h2; omega⟩
  exact implNewEng_go cT m hT h1 h2
end Go.Proofs.Ytibfclfidaofkas
