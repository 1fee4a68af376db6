/- The draw of a wheel, its first loop. -/
import Derived.Test.YtdgefdjgpneanacDrawW
import Derived.Test.YtdgefdjgpneanacSpecArm
import Derived.Test.YtdgefdjgpneanacLate
import Derived.Deep.RegionHeld3
import Derived.Deep.CutRange
namespace Go.Proofs.Ytdgefdjgpneanac
open Go.ChangeShapes Go.WideShapes Go.ChangeAt Go.RowKit
set_option maxRecDepth 100000
set_option linter.unusedVariables false
set_option linter.unusedSimpArgs false

theorem wst_start {B : Nat} {a0 : Option Addr} {len cap b : Nat} {w w1 : World} {x : Int} (k : Cur B a0 len cap b w) (o : Only b (w.alloc (.cells #[.int .i64 0, .slice none 0 0] 36)) w1) (k1 : Cur B a0 len cap b w1) (hx : 0 ≤ x ∧ x < 1000) :
    WSt B a0 len cap b w (w1.alloc (.cells #[.int .i64 x, .slice none 0 0] 36)) w1.heap.size x none 0 0 [] := by
  have hb := k.hi
  have hs := o.size
  simp only [World.size_alloc] at hs
  have hr : Below w1.heap.size w1 (w1.alloc (.cells #[.int .i64 x, .slice none 0 0] 36)) := new_below _ _
  have c := below_cells hr
  have f := below_frozens hr
  refine ⟨k1.alloc _, ((Only.of_below (new_below _ _)).trans o).alloc _, hb, by omega, by simp, ?_, ?_, fun i => ?_, by go_simp, by go_simp, fun i => by go_simp, World.ownsRow_nil _ _ _ _, by simp, by omega⟩
  · exact (c _ _ (by omega)).trans ((o.cell (by show w.heap.size < _; simp) (by show w.heap.size ≠ b; omega)).trans (by go_simp))
  · exact (c _ _ (by omega)).trans ((o.cell (by show w.heap.size < _; simp) (by show w.heap.size ≠ b; omega)).trans (by go_simp))
  · exact (f _ _ (by omega)).trans ((o.frozen (by show w.heap.size < _; simp) (by show w.heap.size ≠ b; omega)).trans (by go_simp))
section
variable {B : Nat} {a0 : Option Addr} {len cap b : Nat} {w wr : World} {V : Nat} {t : Int} {ua : Option Addr} {un uc : Nat} {L : List (Int × Int)}
/-- A cell behind V that is not of the list is stored over. -/
theorem WSt.side (d : WSt B a0 len cap b w wr V t ua un uc L) (c i : Nat) (v : Value) (hc : V < c) (hn : ∀ g, (Value.slice ua un uc).ownBlock = some g → g ≠ c) : WSt B a0 len cap b w (wr.setCell ⟨c, i, none⟩ v) V t ua un uc L := by
  have hb : Below V wr (wr.setCell ⟨c, i, none⟩ v) := (Below.refl V wr).setCell (p := ⟨c, i, none⟩) (by show V ≤ c; omega) _
  obtain ⟨k1, k2, k3, k4, k5, k6⟩ := d.old hb
  refine ⟨k1, k2, d.lt, d.lo, k3, k4, k5, k6, (set_far (by dsimp only; omega)).trans d.c0, (set_far (by dsimp only; omega)).trans d.c1, fun i => by simpa using d.cF i, ?_, d.le, d.tb⟩
  refine d.own.kept (row := some c) ⟨rfl, rfl, rfl, by simp, fun k _ hk => Below.heap_setCell _ _ _ _ (fun e => hk (by simp [e]))⟩ ?_
  cases ho : (Value.slice ua un uc).ownBlock with
  | none => exact .inl rfl
  | some g => exact .inr (fun e => hn g ho (by injection e))
/-- What a round of the first loop leaves: a wheel in a variable of its own, a flag. -/
def A5 (B : Nat) (a0 : Option Addr) (len cap b : Nat) (w : World) (V : Nat) (t : Int) (ua : Option Addr) (un uc : Nat) (L : List (Int × Int)) (s f : Value) (wd : World) : Prop :=
  ∃ b5 fl s' a' n' c' M, s = .pointer (some ⟨b5, 0, none⟩) ∧ f = .bool fl ∧ WSt B a0 len cap b w wd V t ua un uc L ∧ V < b5 ∧ b5 < wd.heap.size ∧ wd.cell? ⟨b5, 0, none⟩ = some (.int .i64 s') ∧ wd.cell? ⟨b5, 1, none⟩ = some (.slice a' n' c') ∧ wd.ownsRow (V + 1) 87 2 (.slice a' n' c') M.length (flat M) ∧ M.length ≤ 201 ∧ (s' = t ∨ s' = 0)
theorem a5_alloc {vP : World} {lo : Nat} {fl : Bool} {s' : Int} {a' : Option Addr} {n' c' : Nat} {M : List (Int × Int)} (d : WSt B a0 len cap b w vP V t ua un uc L) (h : vP.ownsRow lo 87 2 (.slice a' n' c') M.length (flat M)) (hl : V + 1 ≤ lo) (hm : M.length ≤ 201) (hs : s' = t ∨ s' = 0) :
    A5 B a0 len cap b w V t ua un uc L (.pointer (some ⟨vP.heap.size, 0, none⟩)) (.bool fl) (vP.alloc (.cells #[.int .i64 s', .slice a' n' c'] 36)) := by
  have := d.hi
  exact ⟨vP.heap.size, fl, s', a', n', c', M, rfl, rfl, d.next (new_below _ _), by omega, by simp, by go_simp, by go_simp, row_low (row_next h (new_below _ _)) hl, hm, hs⟩
theorem a5_set {vP : World} {lo c : Nat} {u0 u1 : Value} {fl : Bool} {s' : Int} {a' : Option Addr} {n' c' : Nat} {M : List (Int × Int)} (d : WSt B a0 len cap b w vP V t ua un uc L) (h : vP.ownsRow lo 87 2 (.slice a' n' c') M.length (flat M)) (hl : V + 1 ≤ lo) (hm : M.length ≤ 201) (hs : s' = t ∨ s' = 0)
    (hc : V < c) (hcl : c < lo) (h0 : vP.cell? ⟨c, 0, none⟩ = some u0) (h1 : vP.cell? ⟨c, 1, none⟩ = some u1) (hn : ∀ g, (Value.slice ua un uc).ownBlock = some g → g ≠ c) :
    A5 B a0 len cap b w V t ua un uc L (.pointer (some ⟨c, 0, none⟩)) (.bool fl) ((vP.setCell ⟨c, 0, none⟩ (.int .i64 s')).setCell ⟨c, 1, none⟩ (.slice a' n' c')) := by
  have hcs : c < vP.heap.size := World.block_lt_of_cell? vP _ h0
  have two := set_two (.int .i64 s') (.slice a' n' c') h0 h1
  exact ⟨c, fl, s', a', n', c', M, rfl, rfl, (d.side c 0 _ hc hn).side c 1 _ hc hn, hc, by simpa using hcs, two 0 _ rfl, two 1 _ rfl, row_low (row_set (row_set h hcl) hcl) hl, hm, hs⟩
end
theorem nowTab_in (t : Int) (ht : 0 ≤ t ∧ t < 1000) (X : Nat) (h : X < 4) : ∃ y : Int, (#[Value.int IntKind.i64 (-1), Value.int IntKind.i64 (t + 100), Value.int IntKind.i64 1000000000000000, Value.int IntKind.i64 1000000000000001] : Array Value)[X]? = some (.int .i64 y) ∧ -2 ≤ y ∧ y ≤ 1000000000000200 := by
  match X, h with
  | 0, _ => exact ⟨_, rfl, by omega, by omega⟩
  | 1, _ => exact ⟨_, rfl, by omega, by omega⟩
  | 2, _ => exact ⟨_, rfl, by omega, by omega⟩
  | 3, _ => exact ⟨_, rfl, by omega, by omega⟩
theorem timTab_in (X : Nat) (h : X < 3) : ∃ y z : Int, (#[Value.int IntKind.i64 (-1), Value.int IntKind.i64 5000, Value.int IntKind.i64 1000001, Value.int IntKind.i64 5000, Value.int IntKind.i64 77, Value.int IntKind.i64 1000000000000001] : Array Value)[X * 2]? = some (.int .i64 y) ∧
    (#[Value.int IntKind.i64 (-1), Value.int IntKind.i64 5000, Value.int IntKind.i64 1000001, Value.int IntKind.i64 5000, Value.int IntKind.i64 77, Value.int IntKind.i64 1000000000000001] : Array Value)[X * 2 + 1]? = some (.int .i64 z) := by
  match X, h with
  | 0, _ => exact ⟨_, _, rfl, rfl⟩
  | 1, _ => exact ⟨_, _, rfl, rfl⟩
  | 2, _ => exact ⟨_, _, rfl, rfl⟩
/-- What the draw of a wheel comes to. -/
def W5Post (B : Nat) (a0 : Option Addr) (len cap b : Nat) (w : World) (e : Ending) (w' : World) : Prop := ∃ t a n c L, e = .returned (.agg #[.int .i64 t, .slice a n c]) ∧ w'.ownsRow w.heap.size 87 2 (.slice a n c) L.length (flat L) ∧ L.length ≤ 210 ∧ (-2 ≤ t ∧ t ≤ 1000000000000200) ∧ Cur B a0 len cap b w' ∧ Only b w w'
set_option maxHeartbeats 16000000 in
set_option maxRecDepth 100000 in
theorem l5Draw_acc {B : Nat} {a0 : Option Addr} {len cap b : Nat} {w : World} (k : Cur B a0 len cap b w) :
    Calls Try.prog 67 #[.pointer (some ⟨b, 0, none⟩)] w (W5Post B a0 len cap b w) := by
  obtain ⟨i0, hi, hz0, hz1, hz2⟩ := info_parts info_tim
  go_enter Try.func67, Try.ntmps67
  go_wp2_with (first
    | (go_at_call 68; have g1 := st1; refine (below_acc 8 D.out.cur (Only.refl _ _) (by omega) (by omega)).mono ?_; rintro e w2 ⟨x2, rfl, hx2, k2, o2⟩; have D : Hid (WSt B a0 len cap b w w2 w1.heap.size x1 none 0 0 []) := D.out.draw o2 k2)
    | (go_at_call 68; refine (below_acc 1000 (k.alloc _) (Only.refl _ _) (by omega) (by omega)).mono ?_; rintro e w1 ⟨x1, rfl, hx1, k1, o1⟩; have D : Hid (WSt B a0 len cap b w (w1.alloc (.cells #[.int .i64 x1, .slice none 0 0] 36)) w1.heap.size x1 none 0 0 []) := wst_start k o1 k1 hx1; have st1 := hx1))
  go_loopw [4] (fun i wr => ∃ (j : Nat) (t : Int) (ua : Option Addr) (un uc : Nat) (L : List (Int × Int)), i = .int .i64 j ∧ j ≤ 8 ∧ L.length ≤ 201 ∧ (0 ≤ t ∧ t < 1000) ∧ WSt B a0 len cap b w wr w1.heap.size t ua un uc L) (fun i _ => (intOf i).toNat)
  case atStart => exact ⟨x2.toNat, _, _, _, _, _, by rw [Int.toNat_of_nonneg hx2.1], by omega, by simp, hx1, D.out⟩
  case round =>
    obtain ⟨j, t, ua, un, uc, L, rfl, hj, hL, ht1, d⟩ := hrel
    clear D
    have D : Hid (WSt B a0 len cap b w wr w1.heap.size t ua un uc L) := d
    have c0 := d.c0
    have c1 := d.c1
    have cF := d.cF
    have hlt := d.lt
    have hlo := d.lo
    have hhi := d.hi
    have htb := d.tb
    clear d
    cases j with
    | succ j =>
      have hj0 : (0 : Int) < (j : Int) + 1 := by omega
      go_wp2
      go_cut [5, 6] from 13 to 31 (fun s f wd => A5 B a0 len cap b w w1.heap.size t ua un uc L s f wd)
      case first =>
        have n0 : wr.heap.size ≠ w1.heap.size := by omega
        have n1 : wr.heap.size ≠ b := by omega
        have hob : ∀ g, (Value.slice ua un uc).ownBlock = some g → g < wr.heap.size := fun g hg => (D.out.own.lt g hg).2
        have e1 : IntKind.i64.wrap (t + 1) = t + 1 := by rw [IntKind.wrap_i64]; omega
        set_option maxRecDepth 100000 in
        go_region_held3 (fun w' => w'.cell? ⟨w1.heap.size, 0, none⟩ = some (.int .i64 t) ∧ w'.cell? ⟨w1.heap.size, 1, none⟩ = some (.slice ua un uc)) (first | (refine ⟨?_, ?_⟩ <;> first | assumption | (simp only [World.cell?_drew]; assumption)) | go_keep)
          (first
            | (go_at_call 68; have g1 := bq1; refine (below_acc 300 (dB.out.cur.mono (by go_grown)) (Only.refl _ _) (by omega) (by omega)).mono ?_; rintro e vC ⟨y, rfl, hy, kC, oC⟩; have dC : Hid (WSt B a0 len cap b w vC w1.heap.size t ua un uc L) := (dB.out.next (by go_grown)).draw oC kC; have kc := only_cw oC; have kf := only_fw oC; have zC := oC.size; (try simp at zC); have j0 := dC.out.c0; have j1 := dC.out.c1; have n2 : vC.heap.size ≠ w1.heap.size := (by omega); (try (have y2 : wr.heap.size < vC.heap.size := (by omega))); (try (have y3 : vB.heap.size < vC.heap.size := (by omega))); have n4 : vB.heap.size ≠ b := (by have := kB.hi; omega); have e2 : IntKind.i64.wrap (t + 1 + y) = t + 1 + y := (by rw [IntKind.wrap_i64]; omega))
            | (go_at_call 68; refine (below_acc 10 (D.out.cur.mono (by go_grown)) (Only.refl _ _) (by omega) (by omega)).mono ?_; rintro e vB ⟨x, rfl, hx, kB, oB⟩; have dB : Hid (WSt B a0 len cap b w vB w1.heap.size t ua un uc L) := (D.out.next (by go_grown)).draw oB kB; have kc := only_cw oB; have kf := only_fw oB; have zB := oB.size; (try simp at zB); have j0 := dB.out.c0; have j1 := dB.out.c1; have n2 : vB.heap.size ≠ w1.heap.size := (by omega); (try (have y1 : wr.heap.size < vB.heap.size := (by omega))); have bq1 := hx)
            | (go_at_call 20; refine (specArm_tot t _ _ (dC.out.next (by go_grown)).own dC.out.le).mono ?_; rintro e vP ⟨s', M, fz, aP, nP, cP, rfl, hs', hM, hown, hbP⟩; have dP : Hid (WSt B a0 len cap b w vP w1.heap.size t ua un uc L) := dC.out.next (below_step (by go_grown) hbP); have kc := below_cells hbP; have kf := below_frozens hbP; have zP := hbP.size; (try simp at zP); (try simp only [World.size_alloc] at hown); have j0 := dP.out.c0; have j1 := dP.out.c1; have n3 : vP.heap.size ≠ w1.heap.size := (by omega); (try (have y4 : wr.heap.size < vP.heap.size := (by omega))); (try (have y5 : vB.heap.size < vP.heap.size := (by omega))); (try (have y6 : vC.heap.size < vP.heap.size := (by omega))); have n5 : vC.heap.size ≠ b := (by have := kC.hi; omega); have n6 : w1.heap.size ≠ wr.heap.size := (by omega); have n7 : w1.heap.size ≠ vB.heap.size := (by omega); have n8 : w1.heap.size ≠ vC.heap.size := (by omega)))
        all_goals (repeat go_step)
        all_goals go_meet
        all_goals first | exact a5_alloc dP.out hown (by omega) hM hs' | exact a5_set (u0 := .int .i64 0) (u1 := .slice none 0 0) dP.out hown (by omega) hM hs' (by omega) (by omega) (by go_simp) (by go_simp) (fun g hg => (by have := hob g hg; omega))
      case rest =>
        obtain ⟨b5, fl, s', a', n', c', M, rfl, rfl, d, h5, h5', q0, q1, ow5, hM, hs'⟩ := hcut
        clear c0 c1 cF hlt hlo hhi htb D
        have hjw : IntKind.i64.wrap (j : Int) = (j : Int) := by rw [IntKind.wrap_i64]; omega
        have cF := d.cF
        have c0 := d.c0
        have c1 := d.c1
        have hlo := d.lo
        have htb := d.tb
        have D : Hid (WSt B a0 len cap b w wc w1.heap.size t ua un uc L) := d
        clear d
        cases fl
        · go_wp2
          exact ⟨⟨j, t, ua, un, uc, L, by go_num, by omega, hL, ht1, D.out⟩, by simp [intOf]⟩
        · go_wp2
          exact ⟨⟨j, s', a', n', c', M, by go_num, by omega, hM, by omega, D.out.wheel s' (by omega) ow5 (by omega)⟩, by simp [intOf]⟩
    | zero =>
      go_upto_if 33 with (first
        | (go_at_call 69; refine (once_acc 14 D.out.cur (Only.refl _ _) (by omega) (by omega)).mono ?_; rintro e vO ⟨fO, rfl, kO, oO⟩; have D : Hid (WSt B a0 len cap b w vO w1.heap.size t ua un uc L) := D.out.draw oO kO))
      clear c0 c1 cF hlt hlo hhi htb
      go_cut [] from 32 (fun wd => ∃ (t : Int) (ua : Option Addr) (un uc : Nat) (L : List (Int × Int)), WSt B a0 len cap b w wd w1.heap.size t ua un uc L)
      case first =>
        cases fO
        · go_wp2
          go_meet
          exact ⟨_, _, _, _, _, D.out⟩
        · have e100 : IntKind.i64.wrap (t + 100) = t + 100 := by rw [IntKind.wrap_i64]; omega
          have e400 : IntKind.i64.wrap (t + 400) = t + 400 := by rw [IntKind.wrap_i64]; omega
          go_wp2_with (first
            | (go_at_call 68; refine (below_acc 3 D.out.cur (Only.refl _ _) (by omega) (by omega)).mono ?_; rintro e vB ⟨x3, rfl, hx3, kB, oB⟩; have D : Hid (WSt B a0 len cap b w vB w1.heap.size t ua un uc L) := D.out.draw oB kB; have c0 := D.out.c0; have c1 := D.out.c1; have cF := D.out.cF; have hhi := D.out.hi; rcases (show x3 = 0 ∨ x3 = 1 ∨ x3 = 2 from (by omega)) with rfl | rfl | rfl))
          · skip
            refine region_late (S := fun w' => w'.cell? ⟨w1.heap.size, 0, none⟩ = some (.int .i64 t)) 9 (by kernel_rfl) (by go_simp) (fun hS => ?_)
            refine late_take (i := 0) (v := ?_) rfl (by kernel_rfl) (by kernel_rfl) (by kernel_rfl) (by kernel_rfl) (fun _ _ _ h => h) (Or.inl ⟨by rfl, ?_⟩) (by assumption) ?_
            rotate_left 1
            · (intro w' hSw; (try dsimp only at hSw); go_simp; try with_reducible rfl)
            try simp only [Act.put, List.setIfInBounds_toArray, List.set_cons_zero, List.set_cons_succ, List.getElem_toArray, List.getElem_cons_succ, List.getElem_cons_zero]
            refine late_take (i := 1) (v := ?_) rfl (by kernel_rfl) (by kernel_rfl) (by kernel_rfl) (by kernel_rfl) (fun _ _ _ h => h) (Or.inl ⟨by rfl, ?_⟩) (by assumption) ?_
            rotate_left 1
            · (intro w' hSw; (try dsimp only at hSw); go_simp; try with_reducible rfl)
            try simp only [Act.put, List.setIfInBounds_toArray, List.set_cons_zero, List.set_cons_succ, List.getElem_toArray, List.getElem_cons_succ, List.getElem_cons_zero]
            refine late_take (i := 2) (v := ?_) rfl (by kernel_rfl) (by kernel_rfl) (by kernel_rfl) (by kernel_rfl) (fun _ _ _ h => h) (Or.inl ⟨by rfl, ?_⟩) (by assumption) ?_
            rotate_left 1
            · (intro w' hSw; (try dsimp only at hSw); go_simp; try with_reducible rfl)
            try simp only [Act.put, List.setIfInBounds_toArray, List.set_cons_zero, List.set_cons_succ, List.getElem_toArray, List.getElem_cons_succ, List.getElem_cons_zero]
            refine late_take (i := 4) (v := ?_) rfl (by kernel_rfl) (by kernel_rfl) (by kernel_rfl) (by kernel_rfl) (fun _ _ _ h => h) (Or.inl ⟨by rfl, ?_⟩) (by assumption) ?_
            rotate_left 1
            · (intro w' hSw; (try dsimp only at hSw); go_simp; try with_reducible rfl)
            try simp only [Act.put, List.setIfInBounds_toArray, List.set_cons_zero, List.set_cons_succ, List.getElem_toArray, List.getElem_cons_succ, List.getElem_cons_zero]
            refine late_two (i := 3) (j := 5) (by kernel_rfl) rfl rfl (fun K hK => ?_) (fun K hK => ?_)
            · go_simp
              have DA : Hid (WSt B a0 len cap b w (vB.drew.alloc (.cells #[.int .i64 (-1), .int .i64 (t + 100), .int .i64 1000000000000000, .int .i64 1000000000000001] 2)) w1.heap.size t ua un uc L) := (D.out.next (Below.refl _ _).drew).next (new_below _ _)
              refine hK.out _ _ (DA.out.c0) (fun hS => ?_)
              try simp only [Act.put, List.setIfInBounds_toArray, List.set_cons_zero, List.set_cons_succ, List.getElem_toArray, List.getElem_cons_succ, List.getElem_cons_zero]
              refine late_one (i := 5) (by kernel_rfl) rfl (fun K hK => ?_)
              go_simp
              (refine (below_acc 4 DA.out.cur (Only.refl _ _) (by omega) (by omega)).mono ?_; rintro e vT ⟨x4, rfl, hx4, kT, oT⟩; have D2 : Hid (WSt B a0 len cap b w vT w1.heap.size t ua un uc L) := DA.out.draw oT kT; obtain ⟨X, rfl⟩ := Int.eq_ofNat_of_zero_le hx4.1; have hX : X < 4 := (by omega); have hXi : (X : Int) < 4 := (by omega); obtain ⟨y, hy, hy0, hy1⟩ := nowTab_in t ht1 X hX; have hcell : vT.cell? ⟨vB.heap.size, X, none⟩ = some (.int .i64 y) := (table_cell (w := vB.drew) (D.out.next (Below.refl _ _).drew).cur.hi oT X).trans hy; have DZ := D2; have hS := D2.out.c0; have qF := D2.out.cF; simp only [])
              refine hK.out _ _ (by assumption) (fun _ => ?_)
              try simp only [Act.put, List.setIfInBounds_toArray, List.set_cons_zero, List.set_cons_succ, List.getElem_toArray, List.getElem_cons_succ, List.getElem_cons_zero]
              refine late_take (i := 6) (v := ?_) rfl (by kernel_rfl) (by kernel_rfl) (by kernel_rfl) (by kernel_rfl) (fun _ _ _ h => h) (Or.inl ⟨by rfl, ?_⟩) (by assumption) ?_
              rotate_left 1
              · (intro w' hSw; (try dsimp only at hSw); go_simp; try with_reducible rfl)
              try simp only [Act.put, List.setIfInBounds_toArray, List.set_cons_zero, List.set_cons_succ, List.getElem_toArray, List.getElem_cons_succ, List.getElem_cons_zero]
              refine late_one (i := 7) (by kernel_rfl) rfl (fun K hK => ?_)
              go_simp
              refine hK.out _ _ (by assumption) (fun _ => ?_)
              try simp only [Act.put, List.setIfInBounds_toArray, List.set_cons_zero, List.set_cons_succ, List.getElem_toArray, List.getElem_cons_succ, List.getElem_cons_zero]
              refine late_take (i := 8) (v := ?_) rfl (by kernel_rfl) (by kernel_rfl) (by kernel_rfl) (by kernel_rfl) (fun _ _ _ h => h) (Or.inl ⟨by rfl, ?_⟩) (by assumption) ?_
              rotate_left 1
              · (intro w' hSw; (try dsimp only at hSw); go_simp; try with_reducible rfl)
              try simp only [Act.put, List.setIfInBounds_toArray, List.set_cons_zero, List.set_cons_succ, List.getElem_toArray, List.getElem_cons_succ, List.getElem_cons_zero]
              refine late_last (by kernel_rfl) rfl (by kernel_rfl) (fun K hK => ?_)
              go_simp
              refine hK.out _ _ ?_
              try simp only [Act.put, List.setIfInBounds_toArray, List.set_cons_zero, List.set_cons_succ, List.getElem_toArray, List.getElem_cons_succ, List.getElem_cons_zero]
              have dN := DZ.out.time y ⟨hy0, hy1⟩
              go_wp2
              go_meet
              exact ⟨_, _, _, _, _, dN⟩
            · go_simp
              (refine (below_acc 4 (D.out.next (Below.refl _ _).drew).cur (Only.refl _ _) (by omega) (by omega)).mono ?_; rintro e vT ⟨x4, rfl, hx4, kT, oT⟩; have D2 : Hid (WSt B a0 len cap b w vT w1.heap.size t ua un uc L) := (D.out.next (Below.refl _ _).drew).draw oT kT; obtain ⟨X, rfl⟩ := Int.eq_ofNat_of_zero_le hx4.1; have hX : X < 4 := (by omega); have hXi : (X : Int) < 4 := (by omega); obtain ⟨y, hy, hy0, hy1⟩ := nowTab_in t ht1 X hX; have hS := D2.out.c0; simp only [])
              refine hK.out _ _ (by assumption) (fun _ => ?_)
              try simp only [Act.put, List.setIfInBounds_toArray, List.set_cons_zero, List.set_cons_succ, List.getElem_toArray, List.getElem_cons_succ, List.getElem_cons_zero]
              refine late_one (i := 3) (by kernel_rfl) rfl (fun K hK => ?_)
              go_simp
              have DA : Hid (WSt B a0 len cap b w (vT.alloc (.cells #[.int .i64 (-1), .int .i64 (t + 100), .int .i64 1000000000000000, .int .i64 1000000000000001] 2)) w1.heap.size t ua un uc L) := D2.out.next (new_below _ _)
              have hcell : (vT.alloc (.cells #[.int .i64 (-1), .int .i64 (t + 100), .int .i64 1000000000000000, .int .i64 1000000000000001] 2)).cell? ⟨vT.heap.size, X, none⟩ = some (.int .i64 y) := (World.cell?_alloc_at _ _ _ _ rfl).trans hy
              have DZ := DA
              have qF := DA.out.cF
              refine hK.out _ _ (DA.out.c0) (fun hS => ?_)
              try simp only [Act.put, List.setIfInBounds_toArray, List.set_cons_zero, List.set_cons_succ, List.getElem_toArray, List.getElem_cons_succ, List.getElem_cons_zero]
              refine late_take (i := 6) (v := ?_) rfl (by kernel_rfl) (by kernel_rfl) (by kernel_rfl) (by kernel_rfl) (fun _ _ _ h => h) (Or.inl ⟨by rfl, ?_⟩) (by assumption) ?_
              rotate_left 1
              · (intro w' hSw; (try dsimp only at hSw); go_simp; try with_reducible rfl)
              try simp only [Act.put, List.setIfInBounds_toArray, List.set_cons_zero, List.set_cons_succ, List.getElem_toArray, List.getElem_cons_succ, List.getElem_cons_zero]
              refine late_one (i := 7) (by kernel_rfl) rfl (fun K hK => ?_)
              go_simp
              refine hK.out _ _ (by assumption) (fun _ => ?_)
              try simp only [Act.put, List.setIfInBounds_toArray, List.set_cons_zero, List.set_cons_succ, List.getElem_toArray, List.getElem_cons_succ, List.getElem_cons_zero]
              refine late_take (i := 8) (v := ?_) rfl (by kernel_rfl) (by kernel_rfl) (by kernel_rfl) (by kernel_rfl) (fun _ _ _ h => h) (Or.inl ⟨by rfl, ?_⟩) (by assumption) ?_
              rotate_left 1
              · (intro w' hSw; (try dsimp only at hSw); go_simp; try with_reducible rfl)
              try simp only [Act.put, List.setIfInBounds_toArray, List.set_cons_zero, List.set_cons_succ, List.getElem_toArray, List.getElem_cons_succ, List.getElem_cons_zero]
              refine late_last (by kernel_rfl) rfl (by kernel_rfl) (fun K hK => ?_)
              go_simp
              refine hK.out _ _ ?_
              try simp only [Act.put, List.setIfInBounds_toArray, List.set_cons_zero, List.set_cons_succ, List.getElem_toArray, List.getElem_cons_succ, List.getElem_cons_zero]
              have dN := DZ.out.time y ⟨hy0, hy1⟩
              go_wp2
              go_meet
              exact ⟨_, _, _, _, _, dN⟩
          · skip
            refine region_late (S := fun w' => w'.cell? ⟨w1.heap.size, 0, none⟩ = some (.int .i64 t) ∧ w'.cell? ⟨w1.heap.size, 1, none⟩ = some (.slice ua un uc)) 11 (by kernel_rfl) (⟨by go_simp, by go_simp⟩) (fun hS => ?_)
            refine late_take (i := 0) (v := ?_) rfl (by kernel_rfl) (by kernel_rfl) (by kernel_rfl) (by kernel_rfl) (fun _ _ _ h => h) (Or.inl ⟨by rfl, ?_⟩) (by assumption) ?_
            rotate_left 1
            · (intro w' hSw; (try dsimp only at hSw); go_simp; try with_reducible rfl)
            try simp only [Act.put, List.setIfInBounds_toArray, List.set_cons_zero, List.set_cons_succ, List.getElem_toArray, List.getElem_cons_succ, List.getElem_cons_zero]
            refine late_take (i := 1) (v := ?_) rfl (by kernel_rfl) (by kernel_rfl) (by kernel_rfl) (by kernel_rfl) (fun _ _ _ h => h) (Or.inl ⟨by rfl, ?_⟩) (by assumption) ?_
            rotate_left 1
            · (intro w' hSw; (try dsimp only at hSw); go_simp; try with_reducible rfl)
            try simp only [Act.put, List.setIfInBounds_toArray, List.set_cons_zero, List.set_cons_succ, List.getElem_toArray, List.getElem_cons_succ, List.getElem_cons_zero]
            refine late_take (i := 2) (v := ?_) rfl (by kernel_rfl) (by kernel_rfl) (by kernel_rfl) (by kernel_rfl) (fun _ _ _ h => h) (Or.inl ⟨by rfl, ?_⟩) (by assumption) ?_
            rotate_left 1
            · (intro w' hSw; (try dsimp only at hSw); go_simp; try with_reducible rfl)
            try simp only [Act.put, List.setIfInBounds_toArray, List.set_cons_zero, List.set_cons_succ, List.getElem_toArray, List.getElem_cons_succ, List.getElem_cons_zero]
            refine late_take (i := 4) (v := ?_) rfl (by kernel_rfl) (by kernel_rfl) (by kernel_rfl) (by kernel_rfl) (fun _ _ _ h => h) (Or.inl ⟨by rfl, ?_⟩) (by assumption) ?_
            rotate_left 1
            · (intro w' hSw; (try dsimp only at hSw); go_simp; try with_reducible rfl)
            try simp only [Act.put, List.setIfInBounds_toArray, List.set_cons_zero, List.set_cons_succ, List.getElem_toArray, List.getElem_cons_succ, List.getElem_cons_zero]
            refine late_take (i := 5) (v := ?_) rfl (by kernel_rfl) (by kernel_rfl) (by kernel_rfl) (by kernel_rfl) (fun _ _ _ h => h) (Or.inl ⟨by rfl, ?_⟩) (by assumption) ?_
            rotate_left 1
            · (intro w' hSw; (try dsimp only at hSw); go_simp; try with_reducible rfl)
            try simp only [Act.put, List.setIfInBounds_toArray, List.set_cons_zero, List.set_cons_succ, List.getElem_toArray, List.getElem_cons_succ, List.getElem_cons_zero]
            refine late_take (i := 6) (v := ?_) rfl (by kernel_rfl) (by kernel_rfl) (by kernel_rfl) (by kernel_rfl) (fun _ _ _ h => h) (Or.inl ⟨by rfl, ?_⟩) (by assumption) ?_
            rotate_left 1
            · (intro w' hSw; (try dsimp only at hSw); go_simp; try with_reducible rfl)
            try simp only [Act.put, List.setIfInBounds_toArray, List.set_cons_zero, List.set_cons_succ, List.getElem_toArray, List.getElem_cons_succ, List.getElem_cons_zero]
            refine late_one (i := 3) (by kernel_rfl) rfl (fun K hK => ?_)
            go_simp
            (refine (below_acc 10 (D.out.next (Below.refl _ _).drew).cur (Only.refl _ _) (by omega) (by omega)).mono ?_; rintro e vT ⟨y, rfl, hy, kT, oT⟩; have D : Hid (WSt B a0 len cap b w vT w1.heap.size t ua un uc L) := (D.out.next (Below.refl _ _).drew).draw oT kT; have hS : _ ∧ _ := ⟨D.out.c0, D.out.c1⟩; have zT := D.out.hi; simp only [])
            refine hK.out _ _ (by assumption) (fun _ => ?_)
            try simp only [Act.put, List.setIfInBounds_toArray, List.set_cons_zero, List.set_cons_succ, List.getElem_toArray, List.getElem_cons_succ, List.getElem_cons_zero]
            refine late_take (i := 7) (v := ?_) rfl (by kernel_rfl) (by kernel_rfl) (by kernel_rfl) (by kernel_rfl) (fun _ _ _ h => h) (Or.inl ⟨by rfl, ?_⟩) (by assumption) ?_
            rotate_left 1
            · (intro w' hSw; (try dsimp only at hSw); go_simp; try with_reducible rfl)
            try simp only [Act.put, List.setIfInBounds_toArray, List.set_cons_zero, List.set_cons_succ, List.getElem_toArray, List.getElem_cons_succ, List.getElem_cons_zero]
            refine late_one (i := 8) (by kernel_rfl) rfl (fun K hK => ?_)
            go_simp
            have DA : Hid (WSt B a0 len cap b w (vT.alloc (.cells #[.int .i64 y, .int .i64 (t + 400)] 87)) w1.heap.size t ua un uc L) := D.out.next (new_below _ _)
            refine hK.out _ _ (⟨DA.out.c0, DA.out.c1⟩) (fun hS => ?_)
            try simp only [Act.put, List.setIfInBounds_toArray, List.set_cons_zero, List.set_cons_succ, List.getElem_toArray, List.getElem_cons_succ, List.getElem_cons_zero]
            refine late_one (i := 9) (by kernel_rfl) rfl (fun K hK => ?_)
            rw [if_pos (by rfl)]
            refine wp_append_own _ _ _ 34 rfl (w1.heap.size + 1) 87 i0 _ 2 16 Try.underlying34 hi hz0 hz1 hz2 rfl (by decide) _ _ _ rfl (DA.out.own) ⟨vT.heap.size, 0, none⟩ 1 1 [.int .i64 (y), .int .i64 (t + 400)] rfl rfl (two_news (by go_simp) (by go_simp)) (flat_one' [(y, t + 400)]) (by unfold maxLen; omega) (by omega) (by have := DA.out.hi; omega) ?_
            intro v' w' hown' hgr hnil
            obtain ⟨a', c', rfl⟩ := own_slice hown'
            have hrow : w'.ownsRow (w1.heap.size + 1) 87 2 (.slice a' (L.length + 1) c') (L ++ [(y, t + 400)]).length (flat (L ++ [(y, t + 400)])) := by
              rw [List.length_append, flat_append]
              exact hown'
            have hKK := DA.out.kept1 hgr
            have dN := DA.out.more hgr hrow (by simp; omega)
            have qF := hKK.2.2
            have q1 := hKK.2.1
            refine hK.out _ _ (⟨hKK.1, hKK.2.1⟩) (fun hS => ?_)
            try simp only [Act.put, List.setIfInBounds_toArray, List.set_cons_zero, List.set_cons_succ, List.getElem_toArray, List.getElem_cons_succ, List.getElem_cons_zero]
            refine late_take (i := 10) (v := ?_) rfl (by kernel_rfl) (by kernel_rfl) (by kernel_rfl) (by kernel_rfl) (fun _ _ _ h => h) (Or.inl ⟨by rfl, ?_⟩) (by assumption) ?_
            rotate_left 1
            · (intro w' hSw; (try dsimp only at hSw); go_simp; try with_reducible rfl)
            try simp only [Act.put, List.setIfInBounds_toArray, List.set_cons_zero, List.set_cons_succ, List.getElem_toArray, List.getElem_cons_succ, List.getElem_cons_zero]
            refine late_last (by kernel_rfl) rfl (by kernel_rfl) (fun K hK => ?_)
            go_simp
            refine hK.out _ _ ?_
            try simp only [Act.put, List.setIfInBounds_toArray, List.set_cons_zero, List.set_cons_succ, List.getElem_toArray, List.getElem_cons_succ, List.getElem_cons_zero]
            go_wp2
            go_meet
            exact ⟨_, _, _, _, _, dN⟩
          · skip
            refine region_late (S := fun w' => w'.cell? ⟨w1.heap.size, 1, none⟩ = some (.slice ua un uc)) 13 (by kernel_rfl) (by go_simp) (fun hS => ?_)
            refine late_take (i := 0) (v := ?_) rfl (by kernel_rfl) (by kernel_rfl) (by kernel_rfl) (by kernel_rfl) (fun _ _ _ h => h) (Or.inl ⟨by rfl, ?_⟩) (by assumption) ?_
            rotate_left 1
            · (intro w' hSw; (try dsimp only at hSw); go_simp; try with_reducible rfl)
            try simp only [Act.put, List.setIfInBounds_toArray, List.set_cons_zero, List.set_cons_succ, List.getElem_toArray, List.getElem_cons_succ, List.getElem_cons_zero]
            refine late_take (i := 1) (v := ?_) rfl (by kernel_rfl) (by kernel_rfl) (by kernel_rfl) (by kernel_rfl) (fun _ _ _ h => h) (Or.inl ⟨by rfl, ?_⟩) (by assumption) ?_
            rotate_left 1
            · (intro w' hSw; (try dsimp only at hSw); go_simp; try with_reducible rfl)
            try simp only [Act.put, List.setIfInBounds_toArray, List.set_cons_zero, List.set_cons_succ, List.getElem_toArray, List.getElem_cons_succ, List.getElem_cons_zero]
            refine late_take (i := 2) (v := ?_) rfl (by kernel_rfl) (by kernel_rfl) (by kernel_rfl) (by kernel_rfl) (fun _ _ _ h => h) (Or.inl ⟨by rfl, ?_⟩) (by assumption) ?_
            rotate_left 1
            · (intro w' hSw; (try dsimp only at hSw); go_simp; try with_reducible rfl)
            try simp only [Act.put, List.setIfInBounds_toArray, List.set_cons_zero, List.set_cons_succ, List.getElem_toArray, List.getElem_cons_succ, List.getElem_cons_zero]
            refine late_take (i := 3) (v := ?_) rfl (by kernel_rfl) (by kernel_rfl) (by kernel_rfl) (by kernel_rfl) (fun _ _ _ h => h) (Or.inl ⟨by rfl, ?_⟩) (by assumption) ?_
            rotate_left 1
            · (intro w' hSw; (try dsimp only at hSw); go_simp; try with_reducible rfl)
            try simp only [Act.put, List.setIfInBounds_toArray, List.set_cons_zero, List.set_cons_succ, List.getElem_toArray, List.getElem_cons_succ, List.getElem_cons_zero]
            refine late_take (i := 4) (v := ?_) rfl (by kernel_rfl) (by kernel_rfl) (by kernel_rfl) (by kernel_rfl) (fun _ _ _ h => h) (Or.inl ⟨by rfl, ?_⟩) (by assumption) ?_
            rotate_left 1
            · (intro w' hSw; (try dsimp only at hSw); go_simp; try with_reducible rfl)
            try simp only [Act.put, List.setIfInBounds_toArray, List.set_cons_zero, List.set_cons_succ, List.getElem_toArray, List.getElem_cons_succ, List.getElem_cons_zero]
            refine late_take (i := 6) (v := ?_) rfl (by kernel_rfl) (by kernel_rfl) (by kernel_rfl) (by kernel_rfl) (fun _ _ _ h => h) (Or.inl ⟨by rfl, ?_⟩) (by assumption) ?_
            rotate_left 1
            · (intro w' hSw; (try dsimp only at hSw); go_simp; try with_reducible rfl)
            try simp only [Act.put, List.setIfInBounds_toArray, List.set_cons_zero, List.set_cons_succ, List.getElem_toArray, List.getElem_cons_succ, List.getElem_cons_zero]
            refine late_two (i := 5) (j := 7) (by kernel_rfl) rfl rfl (fun K hK => ?_) (fun K hK => ?_)
            · go_simp
              have DA : Hid (WSt B a0 len cap b w (vB.drew.alloc (.cells #[.int .i64 (-1), .int .i64 5000, .int .i64 1000001, .int .i64 5000, .int .i64 77, .int .i64 1000000000000001] 87)) w1.heap.size t ua un uc L) := (D.out.next (Below.refl _ _).drew).next (new_below _ _)
              refine hK.out _ _ (DA.out.c1) (fun hS => ?_)
              try simp only [Act.put, List.setIfInBounds_toArray, List.set_cons_zero, List.set_cons_succ, List.getElem_toArray, List.getElem_cons_succ, List.getElem_cons_zero]
              refine late_one (i := 7) (by kernel_rfl) rfl (fun K hK => ?_)
              go_simp
              (refine (below_acc 3 DA.out.cur (Only.refl _ _) (by omega) (by omega)).mono ?_; rintro e vT ⟨x4, rfl, hx4, kT, oT⟩; have D2 : Hid (WSt B a0 len cap b w vT w1.heap.size t ua un uc L) := DA.out.draw oT kT; obtain ⟨X, rfl⟩ := Int.eq_ofNat_of_zero_le hx4.1; have hX : X < 3 := (by omega); have hXi : (X : Int) < 3 := (by omega); obtain ⟨y, z, hy, hz⟩ := timTab_in X hX; have hc0 : vT.cell? ⟨vB.heap.size, X * 2, none⟩ = some (.int .i64 y) := (table_cell (w := vB.drew) (D.out.next (Below.refl _ _).drew).cur.hi oT (X * 2)).trans hy; have hc1 : vT.cell? ⟨vB.heap.size, X * 2 + 1, none⟩ = some (.int .i64 z) := (table_cell (w := vB.drew) (D.out.next (Below.refl _ _).drew).cur.hi oT (X * 2 + 1)).trans hz; have DZ := D2; have hS := D2.out.c1; simp only [])
              refine hK.out _ _ (by assumption) (fun _ => ?_)
              try simp only [Act.put, List.setIfInBounds_toArray, List.set_cons_zero, List.set_cons_succ, List.getElem_toArray, List.getElem_cons_succ, List.getElem_cons_zero]
              refine late_take (i := 8) (v := ?_) rfl (by kernel_rfl) (by kernel_rfl) (by kernel_rfl) (by kernel_rfl) (fun _ _ _ h => h) (Or.inl ⟨by rfl, ?_⟩) (by assumption) ?_
              rotate_left 1
              · (intro w' hSw; (try dsimp only at hSw); go_simp; try with_reducible rfl)
              try simp only [Act.put, List.setIfInBounds_toArray, List.set_cons_zero, List.set_cons_succ, List.getElem_toArray, List.getElem_cons_succ, List.getElem_cons_zero]
              refine late_one (i := 9) (by kernel_rfl) rfl (fun K hK => ?_)
              go_simp
              refine hK.out _ _ (by assumption) (fun _ => ?_)
              try simp only [Act.put, List.setIfInBounds_toArray, List.set_cons_zero, List.set_cons_succ, List.getElem_toArray, List.getElem_cons_succ, List.getElem_cons_zero]
              refine late_one (i := 10) (by kernel_rfl) rfl (fun K hK => ?_)
              go_simp
              have DA : Hid (WSt B a0 len cap b w (vT.alloc (.cells #[.int .i64 y, .int .i64 z] 87)) w1.heap.size t ua un uc L) := DZ.out.next (new_below _ _)
              refine hK.out _ _ (DA.out.c1) (fun hS => ?_)
              try simp only [Act.put, List.setIfInBounds_toArray, List.set_cons_zero, List.set_cons_succ, List.getElem_toArray, List.getElem_cons_succ, List.getElem_cons_zero]
              refine late_one (i := 11) (by kernel_rfl) rfl (fun K hK => ?_)
              rw [if_pos (by rfl)]
              refine wp_append_own _ _ _ 34 rfl (w1.heap.size + 1) 87 i0 _ 2 16 Try.underlying34 hi hz0 hz1 hz2 rfl (by decide) _ _ _ rfl (DA.out.own) ⟨vT.heap.size, 0, none⟩ 1 1 [.int .i64 (y), .int .i64 (z)] rfl rfl (two_news (by go_simp) (by go_simp)) (flat_one' [(y, z)]) (by unfold maxLen; omega) (by omega) (by have := DA.out.hi; omega) ?_
              intro v' w' hown' hgr hnil
              obtain ⟨a', c', rfl⟩ := own_slice hown'
              have hrow : w'.ownsRow (w1.heap.size + 1) 87 2 (.slice a' (L.length + 1) c') (L ++ [(y, z)]).length (flat (L ++ [(y, z)])) := by
                rw [List.length_append, flat_append]
                exact hown'
              have hKK := DA.out.kept1 hgr
              have dN := DA.out.more hgr hrow (by simp; omega)
              have qF := hKK.2.2
              have q1 := hKK.2.1
              refine hK.out _ _ (hKK.2.1) (fun hS => ?_)
              try simp only [Act.put, List.setIfInBounds_toArray, List.set_cons_zero, List.set_cons_succ, List.getElem_toArray, List.getElem_cons_succ, List.getElem_cons_zero]
              refine late_take (i := 12) (v := ?_) rfl (by kernel_rfl) (by kernel_rfl) (by kernel_rfl) (by kernel_rfl) (fun _ _ _ h => h) (Or.inl ⟨by rfl, ?_⟩) (by assumption) ?_
              rotate_left 1
              · (intro w' hSw; (try dsimp only at hSw); go_simp; try with_reducible rfl)
              try simp only [Act.put, List.setIfInBounds_toArray, List.set_cons_zero, List.set_cons_succ, List.getElem_toArray, List.getElem_cons_succ, List.getElem_cons_zero]
              refine late_last (by kernel_rfl) rfl (by kernel_rfl) (fun K hK => ?_)
              go_simp
              refine hK.out _ _ ?_
              try simp only [Act.put, List.setIfInBounds_toArray, List.set_cons_zero, List.set_cons_succ, List.getElem_toArray, List.getElem_cons_succ, List.getElem_cons_zero]
              go_wp2
              go_meet
              exact ⟨_, _, _, _, _, dN⟩
            · go_simp
              (refine (below_acc 3 (D.out.next (Below.refl _ _).drew).cur (Only.refl _ _) (by omega) (by omega)).mono ?_; rintro e vT ⟨x4, rfl, hx4, kT, oT⟩; have D2 : Hid (WSt B a0 len cap b w vT w1.heap.size t ua un uc L) := (D.out.next (Below.refl _ _).drew).draw oT kT; obtain ⟨X, rfl⟩ := Int.eq_ofNat_of_zero_le hx4.1; have hX : X < 3 := (by omega); have hXi : (X : Int) < 3 := (by omega); obtain ⟨y, z, hy, hz⟩ := timTab_in X hX; have hS := D2.out.c1; simp only [])
              refine hK.out _ _ (by assumption) (fun _ => ?_)
              try simp only [Act.put, List.setIfInBounds_toArray, List.set_cons_zero, List.set_cons_succ, List.getElem_toArray, List.getElem_cons_succ, List.getElem_cons_zero]
              refine late_one (i := 5) (by kernel_rfl) rfl (fun K hK => ?_)
              go_simp
              have DA : Hid (WSt B a0 len cap b w (vT.alloc (.cells #[.int .i64 (-1), .int .i64 5000, .int .i64 1000001, .int .i64 5000, .int .i64 77, .int .i64 1000000000000001] 87)) w1.heap.size t ua un uc L) := D2.out.next (new_below _ _)
              have hc0 : (vT.alloc (.cells #[.int .i64 (-1), .int .i64 5000, .int .i64 1000001, .int .i64 5000, .int .i64 77, .int .i64 1000000000000001] 87)).cell? ⟨vT.heap.size, X * 2, none⟩ = some (.int .i64 y) := (World.cell?_alloc_at _ _ _ _ rfl).trans hy
              have hc1 : (vT.alloc (.cells #[.int .i64 (-1), .int .i64 5000, .int .i64 1000001, .int .i64 5000, .int .i64 77, .int .i64 1000000000000001] 87)).cell? ⟨vT.heap.size, X * 2 + 1, none⟩ = some (.int .i64 z) := (World.cell?_alloc_at _ _ _ _ rfl).trans hz
              obtain ⟨vU, hvU⟩ : ∃ vU, vU = vT.alloc (.cells #[.int .i64 (-1), .int .i64 5000, .int .i64 1000001, .int .i64 5000, .int .i64 77, .int .i64 1000000000000001] 87) := ⟨_, rfl⟩
              rw [← hvU] at hc0 hc1 DA ⊢
              have DZ := DA
              clear hvU
              refine hK.out _ _ (DA.out.c1) (fun hS => ?_)
              try simp only [Act.put, List.setIfInBounds_toArray, List.set_cons_zero, List.set_cons_succ, List.getElem_toArray, List.getElem_cons_succ, List.getElem_cons_zero]
              refine late_take (i := 8) (v := ?_) rfl (by kernel_rfl) (by kernel_rfl) (by kernel_rfl) (by kernel_rfl) (fun _ _ _ h => h) (Or.inl ⟨by rfl, ?_⟩) (by assumption) ?_
              rotate_left 1
              · (intro w' hSw; (try dsimp only at hSw); go_simp; try with_reducible rfl)
              try simp only [Act.put, List.setIfInBounds_toArray, List.set_cons_zero, List.set_cons_succ, List.getElem_toArray, List.getElem_cons_succ, List.getElem_cons_zero]
              refine late_one (i := 9) (by kernel_rfl) rfl (fun K hK => ?_)
              go_simp
              refine hK.out _ _ (by assumption) (fun _ => ?_)
              try simp only [Act.put, List.setIfInBounds_toArray, List.set_cons_zero, List.set_cons_succ, List.getElem_toArray, List.getElem_cons_succ, List.getElem_cons_zero]
              refine late_one (i := 10) (by kernel_rfl) rfl (fun K hK => ?_)
              go_simp
              have DA : Hid (WSt B a0 len cap b w (vU.alloc (.cells #[.int .i64 y, .int .i64 z] 87)) w1.heap.size t ua un uc L) := DZ.out.next (new_below _ _)
              refine hK.out _ _ (DA.out.c1) (fun hS => ?_)
              try simp only [Act.put, List.setIfInBounds_toArray, List.set_cons_zero, List.set_cons_succ, List.getElem_toArray, List.getElem_cons_succ, List.getElem_cons_zero]
              refine late_one (i := 11) (by kernel_rfl) rfl (fun K hK => ?_)
              rw [if_pos (by rfl)]
              refine wp_append_own _ _ _ 34 rfl (w1.heap.size + 1) 87 i0 _ 2 16 Try.underlying34 hi hz0 hz1 hz2 rfl (by decide) _ _ _ rfl (DA.out.own) ⟨vU.heap.size, 0, none⟩ 1 1 [.int .i64 (y), .int .i64 (z)] rfl rfl (two_news (by go_simp) (by go_simp)) (flat_one' [(y, z)]) (by unfold maxLen; omega) (by omega) (by have := DA.out.hi; omega) ?_
              intro v' w' hown' hgr hnil
              obtain ⟨a', c', rfl⟩ := own_slice hown'
              have hrow : w'.ownsRow (w1.heap.size + 1) 87 2 (.slice a' (L.length + 1) c') (L ++ [(y, z)]).length (flat (L ++ [(y, z)])) := by
                rw [List.length_append, flat_append]
                exact hown'
              have hKK := DA.out.kept1 hgr
              have dN := DA.out.more hgr hrow (by simp; omega)
              have qF := hKK.2.2
              have q1 := hKK.2.1
              refine hK.out _ _ (hKK.2.1) (fun hS => ?_)
              try simp only [Act.put, List.setIfInBounds_toArray, List.set_cons_zero, List.set_cons_succ, List.getElem_toArray, List.getElem_cons_succ, List.getElem_cons_zero]
              refine late_take (i := 12) (v := ?_) rfl (by kernel_rfl) (by kernel_rfl) (by kernel_rfl) (by kernel_rfl) (fun _ _ _ h => h) (Or.inl ⟨by rfl, ?_⟩) (by assumption) ?_
              rotate_left 1
              · (intro w' hSw; (try dsimp only at hSw); go_simp; try with_reducible rfl)
              try simp only [Act.put, List.setIfInBounds_toArray, List.set_cons_zero, List.set_cons_succ, List.getElem_toArray, List.getElem_cons_succ, List.getElem_cons_zero]
              refine late_last (by kernel_rfl) rfl (by kernel_rfl) (fun K hK => ?_)
              go_simp
              refine hK.out _ _ ?_
              try simp only [Act.put, List.setIfInBounds_toArray, List.set_cons_zero, List.set_cons_succ, List.getElem_toArray, List.getElem_cons_succ, List.getElem_cons_zero]
              go_wp2
              go_meet
              exact ⟨_, _, _, _, _, dN⟩
      case rest =>
      clear D
      obtain ⟨t, ua, un, uc, L, d⟩ := hcut
      have D : Hid (WSt B a0 len cap b w wc w1.heap.size t ua un uc L) := d
      clear d
      go_upto_if 76 with (first
        | (go_at_call 69; refine (once_acc 40 D.out.cur (Only.refl _ _) (by omega) (by omega)).mono ?_; rintro e vO2 ⟨fO2, rfl, kO2, oO2⟩; have D : Hid (WSt B a0 len cap b w vO2 w1.heap.size t ua un uc L) := D.out.draw oO2 kO2; have c0 := D.out.c0; have c1 := D.out.c1; have cF := D.out.cF; have hlo := D.out.lo))
      go_cut [] from 32 (fun wd => ∃ (t : Int) (ua : Option Addr) (un uc : Nat) (L : List (Int × Int)), WSt B a0 len cap b w wd w1.heap.size t ua un uc L)
      case first =>
        cases fO2
        · go_wp2
          go_meet
          exact ⟨_, _, _, _, _, D.out⟩
        · go_wp2
          have dZ : Hid (WSt B a0 len cap b w ((vO2.setCell ⟨w1.heap.size, 0, none⟩ (.int .i64 0)).setCell ⟨w1.heap.size, 1, none⟩ (.slice none 0 0)) w1.heap.size 0 none 0 0 []) := D.out.wheel 0 (by omega) (World.ownsRow_nil _ _ _ _) (by simp)
          go_loopw [7] (fun i wr => ∃ (j : Nat) (ua : Option Addr) (un uc : Nat) (L : List (Int × Int)), i = .int .i64 j ∧ j ≤ 200 ∧ L.length = j ∧ WSt B a0 len cap b w wr w1.heap.size 0 ua un uc L) (fun i _ => 200 - (intOf i).toNat)
          case atStart => exact ⟨0, none, 0, 0, [], rfl, by omega, rfl, dZ.out⟩
          case round =>
            obtain ⟨j, ua, un, uc, L, rfl, hj, hLj, d⟩ := hrel
            have D : Hid (WSt B a0 len cap b w wr w1.heap.size 0 ua un uc L) := d
            have HLJ : Hid (L.length = j) := hLj
            clear d hLj dZ
            clear c0 c1 cF
            go_upto_if 82 with (first
              | (go_at_call 68; refine (below_acc 2 D.out.cur (Only.refl _ _) (by omega) (by omega)).mono ?_; rintro e vB ⟨y, rfl, hy, kB, oB⟩; have D : Hid (WSt B a0 len cap b w vB w1.heap.size 0 ua un uc L) := D.out.draw oB kB; have c0 := D.out.c0; have c1 := D.out.c1; have cF := D.out.cF; have hhi := D.out.hi; have ey : IntKind.i64.wrap (200 - y) = 200 - y := (by rw [IntKind.wrap_i64]; omega)))
            by_cases hlt : (j : Int) < 200 - y
            · have hja : IntKind.i64.wrap ((j : Int) + 1) = (j : Int) + 1 := by rw [IntKind.wrap_i64]; omega
              have nV : w1.heap.size ≠ vB.heap.size := by omega
              go_wp2_with (first
                | (at_builtin; refine wpList_append_own _ rfl _ _ 34 rfl (w1.heap.size + 1) 87 i0 _ 2 16 Try.underlying34 hi hz0 hz1 hz2 rfl (by decide) _ _ _ rfl (D.out.own.alloc _) ⟨vB.heap.size, 0, none⟩ 1 1 [.int .i64 (j : Int), .int .i64 ((j : Int) + 1)] rfl rfl ?c1 ?c2 ?c3 ?c4 ?c5 ?c6; rotate_left 5; intro v' w' hown' hgr hnil; obtain ⟨a', c', rfl⟩ := own_slice hown'; have hK := (D.out.next (new_below _ (.cells #[.int .i64 (j : Int), .int .i64 ((j : Int) + 1)] 87))).kept1 hgr; have q0 := hK.1; have q1 := hK.2.1; have qF := hK.2.2; clear hK))
              case c1 => exact two_news (by go_simp) (by go_simp)
              case c2 => exact flat_one' [((j : Int), (j : Int) + 1)]
              case c3 => have := HLJ.out; unfold maxLen; omega
              case c4 => have := HLJ.out; omega
              case c5 => simp; omega
              have hrow : w'.ownsRow (w1.heap.size + 1) 87 2 (.slice a' (L.length + 1) c') (L ++ [((j : Int), (j : Int) + 1)]).length (flat (L ++ [((j : Int), (j : Int) + 1)])) := by
                rw [List.length_append, flat_append]
                exact hown'
              have dN := (D.out.next (new_below _ (.cells #[.int .i64 (j : Int), .int .i64 ((j : Int) + 1)] 87))).more hgr hrow (by have := HLJ.out; simp; omega)
              go_roundw
              case rel => exact ⟨j + 1, a', _, c', _, by go_num, by omega, by have := HLJ.out; simp; omega, dN⟩
              case measure => first | (simp [intOf]; done) | (simp [intOf]; omega)
            · have hlt' : decide ((j : Int) < 200 - y) = false := decide_eq_false hlt
              go_wp2
              go_meet
              exact ⟨_, _, _, _, _, D.out⟩
      case rest =>
      clear D
      obtain ⟨t, ua, un, uc, L, d⟩ := hcut
      have c0 := d.c0
      have c1 := d.c1
      have r0 := d.r0
      have r1 := d.r1
      have rF := d.rF
      have hlo := d.lo
      have hhi := d.hi
      go_wp2
      refine bodyPost_ret (results_one rfl _ _ _ [.int .i64 t, .slice ua un uc] rfl (set_two (u0 := .int .i64 0) (u1 := .slice none 0 0) _ _ r0 r1) Try.underlying36 rfl (by kernel_rfl)) rfl ?_
      have hbel : Below w.heap.size wc ((wc.setCell ⟨w.heap.size, 0, none⟩ (.int .i64 t)).setCell ⟨w.heap.size, 1, none⟩ (.slice ua un uc)) := ((Below.refl _ wc).setCell (p := ⟨w.heap.size, 0, none⟩) (Nat.le_refl _) _).setCell (p := ⟨w.heap.size, 1, none⟩) (Nat.le_refl _) _
      exact ⟨t, ua, un, uc, L, rfl, row_low (row_set (row_set d.own (by omega)) (by omega)) (by omega), d.le, d.tb, d.cur.under hbel d.lt, ⟨hbel.os.trans d.only.os, hbel.tape.trans d.only.tape, hbel.output.trans d.only.output, Nat.le_trans d.only.size hbel.size, fun k hk hn => (hbel.block k hk).trans (d.only.block k hk hn)⟩⟩
end Go.Proofs.Ytdgefdjgpneanac
