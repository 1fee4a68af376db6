/- What impl's seatsOf, members answer. -/
import Derived.Test.YtoeiheccmpjclafSeatMath
import Derived.Test.YtoeiheccmpjclafImplPlc
namespace Go.Proofs.Ytoeiheccmpjclaf
open Go.ChangeShapes Go.WideShapes Go.ChangeAt Go.RowKit
set_option maxRecDepth 100000
set_option linter.unusedVariables false
set_option linter.unusedSimpArgs false

/-- A row of seats is handed back. -/
def SeatPost (w : World) (ps : List (Int × Bool)) (e : Ending) (w' : World) : Prop := e = .returned (.agg (flatB ps).toArray) ∧ Below w.heap.size w w'
theorem seats_zero : ∃ (Z : Array Value) (zs : List (Int × Bool)), Hid (Z = (flatB zs).toArray ∧ zs = List.replicate 50 (0, false) ∧ zs.length = 50) ∧ ∀ w, (zeroValue 67).run Try.prog w = .ok (.agg Z) w := ⟨_, _, ⟨rfl, rfl, List.length_replicate⟩, fun w => zeroV_seats w⟩
theorem zero50 : (List.replicate 50 ((0 : Int), false)).length = 50 := List.length_replicate
set_option maxHeartbeats 4000000 in
theorem seatsOf_any {w : World} {a : Option Addr} (cap : Nat) {xs : List Int} (hl : xs.length ≤ 50) (smp : ISmp w.heap.size w a xs) : Calls Try.prog 46 #[.slice a xs.length cap] w (SeatPost w (seatsR xs)) := by
  obtain ⟨Z, zs, HZ, hz⟩ := seats_zero
  go_enter Try.func46, Try.ntmps46
  go_upto_region 2 with (fail)
  obtain ⟨x, hx⟩ : ∃ x, x = (w.alloc (.cells Z 67)).alloc (.cells Z 67) := ⟨_, rfl⟩
  rw [← hx]
  have hbx : Below w.heap.size w x := by rw [hx]; go_grown
  obtain ⟨hZ, hzs, hz5⟩ := HZ.out
  have rz : RowB x w.heap.size zs := by rw [hx, hZ]; exact (rowB_new w hz5).next (by go_grown)
  have r0 : RowB x (w.heap.size + 1) (seatsR (xs.take 0)) := by
    rw [hx, hZ]
    have h := rowB_new (w.alloc (.cells (flatB zs).toArray 67)) hz5
    rw [show (w.alloc (.cells (flatB zs).toArray 67)).heap.size = w.heap.size + 1 by simp] at h
    rw [List.take_zero, seatsR_nil, ← hzs]
    exact h
  have HZ5 : Hid (zs.length = 50) := hz5
  clear hx hZ hzs hz5 hz HZ
  go_wp2
  go_loopw [8] (fun i wr => ∃ (k : Nat), i = .int .i64 k ∧ k ≤ xs.length ∧ RowB wr w.heap.size zs ∧ RowB wr (w.heap.size + 1) (seatsR (xs.take k)) ∧ Below w.heap.size w wr) (fun i _ => xs.length - (intOf i).toNat)
  case atStart => exact ⟨0, rfl, by omega, rz, r0, hbx⟩
  case round =>
    clear rz r0 hbx
    obtain ⟨k, rfl, hk, rz, r1, hwr⟩ := hrel
    have HRZ : Hid (RowB wr w.heap.size zs) := rz
    have HR : Hid (RowB wr (w.heap.size + 1) (seatsR (xs.take k))) := r1
    clear rz r1
    by_cases hlt : k < xs.length
    · have hlt' : (k : Int) < (xs.length : Int) := by omega
      have hk5 : (k : Int) < 50 := by omega
      have hk0 : (0 : Int) ≤ (k : Int) := by omega
      obtain ⟨b, off, rfl, hb, c0⟩ := smp.at hwr k hlt
      obtain ⟨y, hy⟩ : ∃ y, xs[k] = y := ⟨_, rfl⟩
      rw [hy] at c0
      have htl : (xs.take k).length = k := by rw [List.length_take]; omega
      have HN : Hid ((seatsR (xs.take k)).set k (y, true) = seatsR (xs.take (k + 1))) := by
        show _ = _
        have h := seatsR_push (ys := xs.take k) (y := y) (by omega)
        rw [htl] at h
        rw [h, List.take_succ_eq_append_getElem hlt, hy]
      clear hy
      have hsl : (seatsR (xs.take k)).length = 50 := HR.out.1
      obtain ⟨u0, e0⟩ : ∃ u, wr.cell? ⟨w.heap.size + 1, k * 2, none⟩ = some u := ⟨_, HR.out.c0 k (by omega)⟩
      obtain ⟨u1, e1⟩ : ∃ u, wr.cell? ⟨w.heap.size + 1, k * 2 + 1, none⟩ = some u := ⟨_, HR.out.c1 k (by omega)⟩
      have f0 := HR.out.fz
      clear hsl htl
      go_wp2
      obtain ⟨x9, hx9⟩ : ∃ x, x = (wr.setCell ⟨w.heap.size + 1, k * 2, none⟩ (.int .i64 y)).setCell ⟨w.heap.size + 1, k * 2 + 1, none⟩ (.bool true) := ⟨_, rfl⟩
      have R9 : RowB x9 (w.heap.size + 1) (seatsR (xs.take (k + 1))) := by rw [hx9, ← HN.out]; exact HR.out.put k y true
      have o9 : Only (w.heap.size + 1) wr x9 := by rw [hx9]; exact only_two _ _
      rw [← hx9]
      clear hx9
      go_roundw
      case rel => exact ⟨k + 1, by go_num, by omega, HRZ.out.only o9 (by omega), R9, hwr.trans (o9.below (by omega) (hwr.size))⟩
      case measure => first | (simp [intOf]; done) | (simp [intOf]; omega)
    · have e : k = xs.length := by omega
      subst e
      rw [List.take_length] at HR
      go_wp2_with (first
        | (refine wpList_load_row rfl 67 (.tmp 3) rfl (w.heap.size + 1) rfl _ _ _ _ HR.out.2 und_seats rfl (by rw [size_row HR.out.1]; exact info_seats) ?_)
        | (refine wpList_store_row rfl 67 (.tmp 2) (.tmp 18) rfl w.heap.size _ rfl rfl _ _ HRZ.out.2 (by rw [size_row HR.out.1]; exact info_seats) (by rw [size_row HRZ.out.1, size_row HR.out.1]) (all_one _) ?_))
      obtain ⟨R8, o8⟩ := rowB_set HRZ.out HR.out.1
      refine bodyPost_ret (results_cell_row rfl _ _ w.heap.size _ _ _ _ rfl R8.2 und_seats rfl (by rw [size_row R8.1]; exact info_seats)) rfl ?_
      exact ⟨rfl, hwr.trans (o8.below (Nat.le_refl _) hwr.size)⟩
theorem wpList_index_row {P : Program} {ops : Array Oper} {rest : List Oper} {o : Oper} {a : Act} {w : World} {Q : Exit → Act → World → Prop} (hgd : o.guard = none) (t : TypeId) (x i : Operand) (ho : o.op = .index t x i) (v : Value) (hrun : (Instr.index t (a.eval x) (a.eval i)).run P w = .ok v w) (h : wpList P ops Q rest (a.put o.dst v) w) : wpList P ops Q (o :: rest) a w := by
  refine wpList_plain hgd fun K hK => ?_
  unfold Oper.wp
  simp [execOp, ho, hrun, Result.andThen]
  exact hK _ _ h
theorem index_seat {ps : List (Int × Bool)} (hp : ps.length = 50) (k : Nat) (hk : k < ps.length) (w : World) : (Instr.index 67 (.agg (flatB ps).toArray) (.int .i64 (k : Int))).run Try.prog w = .ok (.agg #[.int .i64 ps[k].1, .bool ps[k].2]) w := by
  have hs : (sizeOf 65).run Try.prog w = .ok 2 w := by
    obtain ⟨i0, hi, _, hz1, _⟩ := info_parts info_seat
    simp [sizeOf, typeInfo, hi, hz1]
  have h0 : (0 : Int) ≤ (k : Int) := by omega
  have h1 : (k : Int) < 50 := by omega
  have h2 : k < 50 := by omega
  have hpt := part_seat w ps k hk
  simp [Instr.index, asIntOf, run_underlying und_seats, h0, h1, h2, hs, hpt]
theorem memb_yes {ps : List (Int × Bool)} {k : Nat} (h : k < ps.length) (hk : ps[k].2 = true) : memb (ps.take (k + 1)) = memb (ps.take k) ++ [ps[k].1] := by
  unfold memb
  rw [List.take_succ_eq_append_getElem h, List.filter_append, List.map_append]
  simp [hk]
theorem memb_no {ps : List (Int × Bool)} {k : Nat} (h : k < ps.length) (hk : ps[k].2 = false) : memb (ps.take (k + 1)) = memb (ps.take k) := by
  unfold memb
  rw [List.take_succ_eq_append_getElem h, List.filter_append, List.map_append]
  simp [hk]
theorem memb_le (ps : List (Int × Bool)) (k : Nat) : (memb (ps.take k)).length ≤ ps.length := by
  unfold memb
  rw [List.length_map]
  exact Nat.le_trans (List.length_filter_le _ _) (by rw [List.length_take]; exact Nat.min_le_right _ _)
/-- A list of numbers of the call's own. -/
def NumsPost (w : World) (ys : List Int) (e : Ending) (w' : World) : Prop := ∃ a n c, e = .returned (.slice a n c) ∧ IV w' w.heap.size (.slice a n c) ys ∧ Below w.heap.size w w'
set_option maxHeartbeats 4000000 in
theorem members_any {w : World} {ps : List (Int × Bool)} (hp : ps.length = 50) : Calls Try.prog 48 #[.agg (flatB ps).toArray] w (NumsPost w (memb ps)) := by
  obtain ⟨i0, hi, hz0, hz1, hz2⟩ := info_parts info_int
  obtain ⟨R, hR⟩ : ∃ R : Array Value, R = (flatB ps).toArray := ⟨_, rfl⟩
  rw [← hR]
  have HR : Hid (R = (flatB ps).toArray) := hR
  have HP : Hid (ps.length = 50) := hp
  clear hR hp
  go_enter Try.func48, Try.ntmps48
  go_upto_region 2 with (fail)
  obtain ⟨x, hx⟩ : ∃ x, x = w.alloc (.cells R 67) := ⟨_, rfl⟩
  rw [← hx]
  have hbx : Below w.heap.size w x := by rw [hx]; go_grown
  have hxs : w.heap.size + 1 ≤ x.heap.size := by rw [hx]; simp
  have rx : Hid (x.heap[w.heap.size]? = some (.cells R 67 (0, 0))) := by show _ = _; rw [hx]; exact heap_alloc_new _ _
  clear hx
  go_wp2_with (first
    | (refine wpList_load_row rfl 67 (.tmp 1) rfl w.heap.size rfl _ _ _ _ rx.out und_seats rfl (by rw [HR.out, size_row HP.out]; exact info_seats) ?_))
  go_loopw [3, 7] (fun v0 i wr => ∃ (k : Nat) (v : Value), v0 = v ∧ i = .int .i64 k ∧ k ≤ 50 ∧ wr.ownsRow (w.heap.size + 1) 2 1 v (memb (ps.take k)).length (flatI (memb (ps.take k))) ∧ Below w.heap.size w wr ∧ w.heap.size + 1 ≤ wr.heap.size) (fun _ i _ => 50 - (intOf i).toNat)
  case atStart => exact ⟨0, _, rfl, rfl, by omega, World.ownsRow_nil _ _ _ _, hbx, hxs⟩
  case round =>
    clear hbx rx hxs
    obtain ⟨k, v, hv, rfl, hk, hown, hwr, hws⟩ := hrel
    have hv := hv.symm
    subst hv
    have HO : Hid (wr.ownsRow (w.heap.size + 1) 2 1 v (memb (ps.take k)).length (flatI (memb (ps.take k)))) := hown
    have hml := memb_le ps k
    have HML : Hid ((memb (ps.take k)).length ≤ 50) := by rw [← HP.out]; exact hml
    clear hml hown
    by_cases hlt : k < 50
    · have hlt' : (k : Int) < 50 := by omega
      have hkp : k < ps.length := by rw [HP.out]; exact hlt
      have HI : Hid (∀ w, (Instr.index 67 (.agg R) (.int .i64 (k : Int))).run Try.prog w = .ok (.agg #[.int .i64 ps[k].1, .bool ps[k].2]) w) := fun w => by rw [HR.out]; exact index_seat HP.out k hkp w
      have HY : Hid (ps[k].2 = true → memb (ps.take (k + 1)) = memb (ps.take k) ++ [ps[k].1]) := memb_yes hkp
      have HN : Hid (ps[k].2 = false → memb (ps.take (k + 1)) = memb (ps.take k)) := memb_no hkp
      obtain ⟨y, hy⟩ : ∃ y, ps[k].1 = y := ⟨_, rfl⟩
      obtain ⟨f, hf⟩ : ∃ f, ps[k].2 = f := ⟨_, rfl⟩
      rw [hy, hf] at HI
      rw [hy, hf] at HY
      rw [hf] at HN
      clear hy hf hkp
      obtain ⟨ys, hys⟩ : ∃ ys, ys = memb (ps.take k) := ⟨_, rfl⟩
      rw [← hys] at HO HML HY HN
      clear hys
      cases f
      · go_wp2_with (first
          | (refine wpList_index_row rfl 67 (.tmp 6) (.tmp 7) rfl _ (HI.out _) ?_))
        go_roundw
        case rel => exact ⟨k + 1, _, rfl, by go_num, by omega, by rw [HN.out rfl]; exact row_next HO.out (new_below _ _), below_two hwr (new_below _ _), by simp; omega⟩
        case measure => first | (simp [intOf]; done) | (simp [intOf]; omega)
      · go_upto_region 6 with (first
          | (refine wpList_index_row rfl 67 (.tmp 6) (.tmp 7) rfl _ (HI.out _) ?_))
        obtain ⟨x5, hx5⟩ : ∃ x5, x5 = wr.alloc (.cells #[.int .i64 y, .bool true] 65) := ⟨_, rfl⟩
        rw [← hx5]
        have hb5 : Below wr.heap.size wr x5 := by rw [hx5]; exact new_below _ _
        have c5 : x5.cell? ⟨wr.heap.size, 0, none⟩ = some (.int .i64 y) := by rw [hx5]; go_simp
        have ho5 := row_next HO.out hb5
        have z5 := hb5.size
        have hlm := HML.out
        clear hx5
        go_wp2_with (first
          | (at_builtin; refine wpList_append_own _ rfl _ _ 35 rfl (w.heap.size + 1) 2 i0 _ 1 8 Try.underlying35 hi hz0 hz1 hz2 rfl (by decide) _ _ _ rfl (ho5.alloc _) ⟨x5.heap.size, 0, none⟩ 1 1 [.int .i64 y] rfl rfl (one_news (by go_simp)) (fun u hu => by rw [List.mem_singleton] at hu; subst hu; rfl) (by unfold maxLen; omega) (by omega) (by simp; omega) ?_; intro v' w' hown' hgr hnil))
        have hb6 : Below x5.heap.size x5 (x5.alloc (.cells #[.int .i64 y] 2)) := new_below _ _
        have hbw := ((below_two hwr hb5).trans (hb6.mono (by omega))).grown hgr (by simp; omega) (fun g hg => by have := (ho5.lt g hg).1; omega)
        have zg := hgr.size
        go_roundw
        case rel => exact ⟨k + 1, _, rfl, by go_num, by omega, by rw [HY.out rfl, flatI_append, List.length_append]; exact hown', hbw, by simp at zg; omega⟩
        case measure => first | (simp [intOf]; done) | (simp [intOf]; omega)
    · have e : k = 50 := by omega
      subst e
      have HO2 : Hid (wr.ownsRow (w.heap.size + 1) 2 1 v (memb ps).length (flatI (memb ps))) := by
        have h := HO.out
        rw [List.take_of_length_le (by rw [HP.out]; omega)] at h
        exact h
      obtain ⟨a3, c3, rfl⟩ := own_slice HO2.out
      clear HO
      go_wp2
      go_ret
      exact ⟨_, _, _, rfl, (own_ints HO2.out).lower (by omega), hwr⟩
end Go.Proofs.Ytoeiheccmpjclaf
