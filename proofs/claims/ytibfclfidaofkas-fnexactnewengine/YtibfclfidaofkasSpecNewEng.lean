/- What spec.NewEngine answers. -/
import Derived.Test.YtibfclfidaofkasEngPost
import Derived.Test.YtibfclfidaofkasGrpO
import Derived.Test.YtibfclfidaofkasSpecPlc
namespace Go.Proofs.Ytibfclfidaofkas
open Go.ChangeShapes Go.WideShapes Go.ChangeAt Go.RowKit
set_option maxRecDepth 100000
set_option linter.unusedVariables false
set_option linter.unusedSimpArgs false

set_option maxHeartbeats 4000000 in
theorem specNewEng_no1 {w : World} {aT : Option Addr} (cT : Nat) {T : List Q4} (n : Int) (hT : Quad w.heap.size w aT T) (h1 : newB_LendMath T 0 = false) : Calls Try.prog 11 #[.slice aT T.length cT, .int .i64 n] w (EgPost w 0 0 [] [] [] [] [] (.bool false)) := by
  have nb : Below w.heap.size w (w.alloc (.cells #[.int .i64 0, .slice none 0 0, .slice none 0 0, .slice none 0 0, .slice none 0 0, .slice none 0 0, .int .i64 0] 39)) := new_below _ _
  have L0 : Lay (w.alloc (.cells #[.int .i64 0, .slice none 0 0, .slice none 0 0, .slice none 0 0, .slice none 0 0, .slice none 0 0, .int .i64 0] 39)) w.heap.size [.int .i64 0, .slice none 0 0, .slice none 0 0, .slice none 0 0, .slice none 0 0, .slice none 0 0, .int .i64 0] := lay_new [.int .i64 0, .slice none 0 0, .slice none 0 0, .slice none 0 0, .slice none 0 0, .slice none 0 0, .int .i64 0] _ rfl
  go_enter Try.func11, Try.ntmps11
  go_upto_region 3 with (first | (go_at_call 40; refine (specNewLend_any cT 0 (hT.here nb)).mono ?_; rintro e w2 ⟨a1, n1, c1, a2, n2, c2, a3, n3, c3, rfl, lv, hb2⟩; rw [h1]))
  obtain ⟨x, hx⟩ : ∃ x, x = w2.alloc (.cells #[.slice a1 n1 c1, .slice a2 n2 c2, .slice a3 n3 c3] 35) := ⟨_, rfl⟩
  rw [← hx]
  have bx : Below w2.heap.size w2 x := by rw [hx]; exact new_below _ _
  clear hx
  have LX := (L0.next hb2).next bx
  have z0 : x.cell? ⟨w.heap.size, 0, none⟩ = some (.int .i64 0) := LX.cell 0 _ rfl
  have z1 : x.cell? ⟨w.heap.size, 1, none⟩ = some (.slice none 0 0) := LX.cell 1 _ rfl
  have z2 : x.cell? ⟨w.heap.size, 2, none⟩ = some (.slice none 0 0) := LX.cell 2 _ rfl
  have z3 : x.cell? ⟨w.heap.size, 3, none⟩ = some (.slice none 0 0) := LX.cell 3 _ rfl
  have z4 : x.cell? ⟨w.heap.size, 4, none⟩ = some (.slice none 0 0) := LX.cell 4 _ rfl
  have z5 : x.cell? ⟨w.heap.size, 5, none⟩ = some (.slice none 0 0) := LX.cell 5 _ rfl
  have z6 : x.cell? ⟨w.heap.size, 6, none⟩ = some (.int .i64 0) := LX.cell 6 _ rfl
  have fz := LX.free
  go_wp2
  obtain ⟨u, hu⟩ : ∃ u, u = x.setCells (w.heap.size) 0 [.int .i64 0, .slice none 0 0, .slice none 0 0, .slice none 0 0, .slice none 0 0, .slice none 0 0, .int .i64 0] := ⟨_, rfl⟩
  have hu' : (((((((x.setCell ⟨w.heap.size, 0, none⟩ (.int .i64 0)).setCell ⟨w.heap.size, 1, none⟩ (.slice none 0 0)).setCell ⟨w.heap.size, 2, none⟩ (.slice none 0 0)).setCell ⟨w.heap.size, 3, none⟩ (.slice none 0 0)).setCell ⟨w.heap.size, 4, none⟩ (.slice none 0 0)).setCell ⟨w.heap.size, 5, none⟩ (.slice none 0 0)).setCell ⟨w.heap.size, 6, none⟩ (.int .i64 0)) = u := hu.symm
  rw [hu']
  clear hu'
  have ou : Only (w.heap.size) x u := by rw [hu]; exact onlyCells _ _ _
  have U : Lay u (w.heap.size) [.int .i64 0, .slice none 0 0, .slice none 0 0, .slice none 0 0, .slice none 0 0, .slice none 0 0, .int .i64 0] := by rw [hu]; exact LX.put (p := []) (q := [.int .i64 0, .slice none 0 0, .slice none 0 0, .slice none 0 0, .slice none 0 0, .slice none 0 0, .int .i64 0]) (r := []) [.int .i64 0, .slice none 0 0, .slice none 0 0, .slice none 0 0, .slice none 0 0, .slice none 0 0, .int .i64 0] rfl
  clear hu
  have bw := below_two (below_two nb hb2) bx
  have zw := bw.size
  have zu := ou.size
  refine bodyPost_ret (results_two rfl _ _ _ [.int .i64 0, .slice none 0 0, .slice none 0 0, .slice none 0 0, .slice none 0 0, .slice none 0 0, .int .i64 0] rfl U.cell Try.underlying39 rfl (by kernel_rfl)) rfl ?_
  exact ⟨_, _, _, _, _, _, _, _, _, _, rfl, eng_zero (by omega) (Nat.le_refl _), bw.trans (ou.below (Nat.le_refl _) bw.size)⟩
set_option maxHeartbeats 4000000 in
theorem specNewEng_no2 {w : World} {aT : Option Addr} (cT : Nat) {T : List Q4} (n : Int) (hT : Quad w.heap.size w aT T) (h1 : newB_LendMath T 0 = true) (h2 : inQ 1 n 10 = false) : Calls Try.prog 11 #[.slice aT T.length cT, .int .i64 n] w (EgPost w 0 0 [] [] [] [] [] (.bool false)) := by
  have nb : Below w.heap.size w (w.alloc (.cells #[.int .i64 0, .slice none 0 0, .slice none 0 0, .slice none 0 0, .slice none 0 0, .slice none 0 0, .int .i64 0] 39)) := new_below _ _
  have L0 : Lay (w.alloc (.cells #[.int .i64 0, .slice none 0 0, .slice none 0 0, .slice none 0 0, .slice none 0 0, .slice none 0 0, .int .i64 0] 39)) w.heap.size [.int .i64 0, .slice none 0 0, .slice none 0 0, .slice none 0 0, .slice none 0 0, .slice none 0 0, .int .i64 0] := lay_new [.int .i64 0, .slice none 0 0, .slice none 0 0, .slice none 0 0, .slice none 0 0, .slice none 0 0, .int .i64 0] _ rfl
  go_enter Try.func11, Try.ntmps11
  go_upto_region 3 with (first | (go_at_call 40; refine (specNewLend_any cT 0 (hT.here nb)).mono ?_; rintro e w2 ⟨a1, n1, c1, a2, n2, c2, a3, n3, c3, rfl, lv, hb2⟩; rw [h1]) | (go_at_call 23; refine (inQ_is h2 _).mono ?_; rintro e w3 ⟨rfl, e3⟩; replace e3 := e3.symm; subst e3))
  obtain ⟨x, hx⟩ : ∃ x, x = w2.alloc (.cells #[.slice a1 n1 c1, .slice a2 n2 c2, .slice a3 n3 c3] 35) := ⟨_, rfl⟩
  rw [← hx]
  have bx : Below w2.heap.size w2 x := by rw [hx]; exact new_below _ _
  clear hx
  have LX := (L0.next hb2).next bx
  have z0 : x.cell? ⟨w.heap.size, 0, none⟩ = some (.int .i64 0) := LX.cell 0 _ rfl
  have z1 : x.cell? ⟨w.heap.size, 1, none⟩ = some (.slice none 0 0) := LX.cell 1 _ rfl
  have z2 : x.cell? ⟨w.heap.size, 2, none⟩ = some (.slice none 0 0) := LX.cell 2 _ rfl
  have z3 : x.cell? ⟨w.heap.size, 3, none⟩ = some (.slice none 0 0) := LX.cell 3 _ rfl
  have z4 : x.cell? ⟨w.heap.size, 4, none⟩ = some (.slice none 0 0) := LX.cell 4 _ rfl
  have z5 : x.cell? ⟨w.heap.size, 5, none⟩ = some (.slice none 0 0) := LX.cell 5 _ rfl
  have z6 : x.cell? ⟨w.heap.size, 6, none⟩ = some (.int .i64 0) := LX.cell 6 _ rfl
  have fz := LX.free
  go_wp2
  obtain ⟨u, hu⟩ : ∃ u, u = x.setCells (w.heap.size) 0 [.int .i64 0, .slice none 0 0, .slice none 0 0, .slice none 0 0, .slice none 0 0, .slice none 0 0, .int .i64 0] := ⟨_, rfl⟩
  have hu' : (((((((x.setCell ⟨w.heap.size, 0, none⟩ (.int .i64 0)).setCell ⟨w.heap.size, 1, none⟩ (.slice none 0 0)).setCell ⟨w.heap.size, 2, none⟩ (.slice none 0 0)).setCell ⟨w.heap.size, 3, none⟩ (.slice none 0 0)).setCell ⟨w.heap.size, 4, none⟩ (.slice none 0 0)).setCell ⟨w.heap.size, 5, none⟩ (.slice none 0 0)).setCell ⟨w.heap.size, 6, none⟩ (.int .i64 0)) = u := hu.symm
  rw [hu']
  clear hu'
  have ou : Only (w.heap.size) x u := by rw [hu]; exact onlyCells _ _ _
  have U : Lay u (w.heap.size) [.int .i64 0, .slice none 0 0, .slice none 0 0, .slice none 0 0, .slice none 0 0, .slice none 0 0, .int .i64 0] := by rw [hu]; exact LX.put (p := []) (q := [.int .i64 0, .slice none 0 0, .slice none 0 0, .slice none 0 0, .slice none 0 0, .slice none 0 0, .int .i64 0]) (r := []) [.int .i64 0, .slice none 0 0, .slice none 0 0, .slice none 0 0, .slice none 0 0, .slice none 0 0, .int .i64 0] rfl
  clear hu
  have bw := below_two (below_two nb hb2) bx
  have zw := bw.size
  have zu := ou.size
  refine bodyPost_ret (results_two rfl _ _ _ [.int .i64 0, .slice none 0 0, .slice none 0 0, .slice none 0 0, .slice none 0 0, .slice none 0 0, .int .i64 0] rfl U.cell Try.underlying39 rfl (by kernel_rfl)) rfl ?_
  exact ⟨_, _, _, _, _, _, _, _, _, _, rfl, eng_zero (by omega) (Nat.le_refl _), bw.trans (ou.below (Nat.le_refl _) bw.size)⟩
set_option maxHeartbeats 8000000 in
theorem specNewEng_go {w : World} {aT : Option Addr} (cT : Nat) {T : List Q4} (n : Nat) (hT : Quad w.heap.size w aT T) (h1 : newB_LendMath T 0 = true) (h2 : inQ 1 (n : Int) 10 = true) : Calls Try.prog 11 #[.slice aT T.length cT, .int .i64 (n : Int)] w (EgPost w 0 0 (newT T 0) (newO T 0) (newP T 0) (List.replicate n newPl) [] (.bool true)) := by
  obtain ⟨j0, hj, jz0, jz1, jz2⟩ := info_parts info_place
  have hn : 1 ≤ n ∧ n ≤ 10 := by
    unfold inQ at h2
    simp only [Bool.and_eq_true, decide_eq_true_eq] at h2
    omega
  have nb : Below w.heap.size w (w.alloc (.cells #[.int .i64 0, .slice none 0 0, .slice none 0 0, .slice none 0 0, .slice none 0 0, .slice none 0 0, .int .i64 0] 39)) := new_below _ _
  have L0 : Lay (w.alloc (.cells #[.int .i64 0, .slice none 0 0, .slice none 0 0, .slice none 0 0, .slice none 0 0, .slice none 0 0, .int .i64 0] 39)) w.heap.size [.int .i64 0, .slice none 0 0, .slice none 0 0, .slice none 0 0, .slice none 0 0, .slice none 0 0, .int .i64 0] := lay_new [.int .i64 0, .slice none 0 0, .slice none 0 0, .slice none 0 0, .slice none 0 0, .slice none 0 0, .int .i64 0] _ rfl
  go_enter Try.func11, Try.ntmps11
  go_upto_region 4 with (first | (go_at_call 40; refine (specNewLend_any cT 0 (hT.here nb)).mono ?_; rintro e w2 ⟨a1, n1, c1, a2, n2, c2, a3, n3, c3, rfl, lv, hb2⟩; rw [h1]) | (go_at_call 23; refine (inQ_is h2 _).mono ?_; rintro e w3 ⟨rfl, e3⟩; replace e3 := e3.symm; subst e3))
  obtain ⟨x, hx⟩ : ∃ x, x = w2.alloc (.cells #[.slice a1 n1 c1, .slice a2 n2 c2, .slice a3 n3 c3] 35) := ⟨_, rfl⟩
  rw [← hx]
  have bx : Below w2.heap.size w2 x := by rw [hx]; exact new_below _ _
  have lx0 : x.cell? ⟨w2.heap.size, 0, none⟩ = some (.slice a1 n1 c1) := by rw [hx]; go_simp
  have lx1 : x.cell? ⟨w2.heap.size, 1, none⟩ = some (.slice a2 n2 c2) := by rw [hx]; go_simp
  have lx2 : x.cell? ⟨w2.heap.size, 2, none⟩ = some (.slice a3 n3 c3) := by rw [hx]; go_simp
  clear hx
  have LX := (L0.next hb2).next bx
  have bw := below_two (below_two nb hb2) bx
  have lvx := lv.next bx
  have LVB : Hid (∀ b, inL (.slice a1 n1 c1) (.slice a2 n2 c2) (.slice a3 n3 c3) b → b < w2.heap.size) := fun b hb => (lv.lo hb).2
  have z2 := hb2.size
  have zx := bx.size
  have znb : w.heap.size < (w.alloc (.cells #[.int .i64 0, .slice none 0 0, .slice none 0 0, .slice none 0 0, .slice none 0 0, .slice none 0 0, .int .i64 0] 39)).heap.size := by simp
  have hg4 : w.heap.size < x.heap.size := LX.lt
  clear L0 lv
  go_wp2
  clear lx0 lx1 lx2
  obtain ⟨y, hy⟩ : ∃ y, y = x.alloc (.cells #[.int .i64 0, .slice a1 n1 c1, .slice a2 n2 c2, .slice a3 n3 c3, .slice none 0 0, .slice none 0 0, .int .i64 0] 39) := ⟨_, rfl⟩
  obtain ⟨g, hg⟩ : ∃ g, x.heap.size = g := ⟨_, rfl⟩
  rw [← hy]
  have LY : Lay y g [.int .i64 0, .slice a1 n1 c1, .slice a2 n2 c2, .slice a3 n3 c3, .slice none 0 0, .slice none 0 0, .int .i64 0] := by rw [hy]; exact lay_new [.int .i64 0, .slice a1 n1 c1, .slice a2 n2 c2, .slice a3 n3 c3, .slice none 0 0, .slice none 0 0, .int .i64 0] _ hg.symm
  have by' : Below x.heap.size x y := by rw [hy]; exact new_below _ _
  have hgy : g + 1 = y.heap.size := by rw [hy, ← hg]; simp
  simp only [hg]
  clear hy
  have HGY : Hid (g + 1 = y.heap.size ∧ x.heap.size = g) := ⟨hgy, hg⟩
  clear hgy hg
  go_loopw [1] (fun s wr => ∃ (k : Nat) (av : Option Addr) (cv : Nat), s = .int .i64 ((n - k : Nat) : Int) ∧ k ≤ n ∧ Hid (Lay wr g [.int .i64 0, .slice a1 n1 c1, .slice a2 n2 c2, .slice a3 n3 c3, .slice av k cv, .slice none 0 0, .int .i64 0]) ∧ Hid (wr.ownsRow y.heap.size 67 3 (.slice av k cv) k (flatF (List.replicate k newG))) ∧ OnlyO (some g) y wr) (fun s _ => (intOf s).toNat)
  case atStart => exact ⟨0, none, 0, rfl, by omega, LY, ⟨rfl, .inl ⟨rfl, rfl⟩⟩, OnlyO.of_below (Below.refl _ _)⟩
  case round =>
    obtain ⟨k, av, cv, rfl, hk, HL, HO, ho⟩ := hrel
    have zr := ho.size
    have hgr : g < wr.heap.size := HL.out.lt
    by_cases hlt : k < n
    · have hp : (0 : Int) < ((n - k : Nat) : Int) := by omega
      have hp' : 0 < n - k := by omega
      have hkn : k < n := hlt
      have hw1 : IntKind.i64.wrap (((n - k : Nat) : Int) - 1) = ((n - (k + 1) : Nat) : Int) := by rw [IntKind.wrap_i64]; omega
      obtain ⟨m, hm⟩ : ∃ m, n - k = m := ⟨_, rfl⟩
      rw [hm] at hp hp' hw1
      rw [hm]
      have r4 : wr.cell? ⟨g, 4, none⟩ = some (.slice av k cv) := HL.out.cell 4 _ rfl
      have hgn : g ≠ wr.heap.size := by omega
      have HLF := HL.out.free
      go_wp2_with (first
        | (at_builtin; refine wpList_append_own _ rfl _ _ 36 rfl y.heap.size 67 j0 _ 3 40 Try.underlying36 hj jz0 jz1 jz2 rfl (by decide) _ _ _ rfl (HO.out.alloc _) ⟨wr.heap.size, 0, none⟩ 1 1 [.int .i64 60000, .int .i64 0, .slice none 0 0] rfl rfl ?c1 ?c2 ?c3 ?c4 ?c5 ?c6; rotate_left 5; intro v' w' hown' hgr' hnil; have hoq : OnlyO (some g) y w' := app_only ho hgr' (fun g' hg' => (HO.out.lt g' hg').1); have Lq : Hid (Lay w' g [.int .i64 0, .slice a1 n1 c1, .slice a2 n2 c2, .slice a3 n3 c3, .slice av k cv, .slice none 0 0, .int .i64 0]) := lay_app HL.out hgr' (fun g' hg' e => by have := (HO.out.lt g' hg').1; have := HGY.out; omega); have q4 : w'.cell? ⟨g, 4, none⟩ = some (.slice av k cv) := Lq.out.cell 4 _ rfl; have qf := Lq.out.free; obtain ⟨av', cv', rfl⟩ := own_slice hown'; clear r4))
      case c1 => exact three_newsE (by go_simp) (by go_simp) (by go_simp)
      case c2 => intro u hu; simp only [List.mem_cons, List.not_mem_nil, or_false] at hu; rcases hu with rfl | rfl | rfl <;> rfl
      case c3 => unfold maxLen; omega
      case c4 => omega
      case c5 => simp; omega
      go_roundw
      case rel =>
        refine ⟨k + 1, av', cv', by rw [← hw1], by omega, ?_, ?_, ?_⟩
        · exact Lq.out.put (p := [.int .i64 0, .slice a1 n1 c1, .slice a2 n2 c2, .slice a3 n3 c3]) (q := [.slice av k cv]) (r := [.slice none 0 0, .int .i64 0]) [.slice av' (k + 1) cv'] rfl
        · have k0 := hown'.kept (grown_set w' g 4 (.slice av' (k + 1) cv')) (by
            cases hob : (Value.slice av' (k + 1) cv').ownBlock with
            | none => exact .inl rfl
            | some q => exact .inr (fun e => by have h1 := (hown'.lt q hob).1; have h2 := HGY.out; have h3 := Option.some.inj e; omega))
          rw [flatF_new]
          exact k0
        · exact hoq.trans (OnlyO.of_only ((Only.refl _ w').setCell (p := ⟨g, 4, none⟩) rfl _))
      case measure => simp [intOf]; omega
    · have e : k = n := by omega
      subst e
      have hz0 : ¬ ((0 : Int) < ((k - k : Nat) : Int)) := by omega
      rw [Nat.sub_self]
      have hgw : w.heap.size ≠ g := by have := HGY.out; omega
      have LR := (LX.next by').onlyO ho (fun e => hgw (Option.some.inj e).symm)
      have HLR := HL.out
      have l0 : wr.cell? ⟨g, 0, none⟩ = some (.int .i64 0) := HLR.cell 0 _ rfl
      have l1 : wr.cell? ⟨g, 1, none⟩ = some (.slice a1 n1 c1) := HLR.cell 1 _ rfl
      have l2 : wr.cell? ⟨g, 2, none⟩ = some (.slice a2 n2 c2) := HLR.cell 2 _ rfl
      have l3 : wr.cell? ⟨g, 3, none⟩ = some (.slice a3 n3 c3) := HLR.cell 3 _ rfl
      have l4 : wr.cell? ⟨g, 4, none⟩ = some (.slice av k cv) := HLR.cell 4 _ rfl
      have l5 : wr.cell? ⟨g, 5, none⟩ = some (.slice none 0 0) := HLR.cell 5 _ rfl
      have l6 : wr.cell? ⟨g, 6, none⟩ = some (.int .i64 0) := HLR.cell 6 _ rfl
      have r0 : wr.cell? ⟨w.heap.size, 0, none⟩ = some (.int .i64 0) := LR.cell 0 _ rfl
      have r1 : wr.cell? ⟨w.heap.size, 1, none⟩ = some (.slice none 0 0) := LR.cell 1 _ rfl
      have r2 : wr.cell? ⟨w.heap.size, 2, none⟩ = some (.slice none 0 0) := LR.cell 2 _ rfl
      have r3 : wr.cell? ⟨w.heap.size, 3, none⟩ = some (.slice none 0 0) := LR.cell 3 _ rfl
      have r4 : wr.cell? ⟨w.heap.size, 4, none⟩ = some (.slice none 0 0) := LR.cell 4 _ rfl
      have r5 : wr.cell? ⟨w.heap.size, 5, none⟩ = some (.slice none 0 0) := LR.cell 5 _ rfl
      have r6 : wr.cell? ⟨w.heap.size, 6, none⟩ = some (.int .i64 0) := LR.cell 6 _ rfl
      have fz := LR.free
      go_wp2
      obtain ⟨u, hu⟩ : ∃ u, u = wr.setCells (w.heap.size) 0 [.int .i64 0, .slice a1 n1 c1, .slice a2 n2 c2, .slice a3 n3 c3, .slice av k cv, .slice none 0 0, .int .i64 0] := ⟨_, rfl⟩
      have hu' : (((((((wr.setCell ⟨w.heap.size, 0, none⟩ (.int .i64 0)).setCell ⟨w.heap.size, 1, none⟩ (.slice a1 n1 c1)).setCell ⟨w.heap.size, 2, none⟩ (.slice a2 n2 c2)).setCell ⟨w.heap.size, 3, none⟩ (.slice a3 n3 c3)).setCell ⟨w.heap.size, 4, none⟩ (.slice av k cv)).setCell ⟨w.heap.size, 5, none⟩ (.slice none 0 0)).setCell ⟨w.heap.size, 6, none⟩ (.int .i64 0)) = u := hu.symm
      rw [hu']
      clear hu'
      have ou : Only (w.heap.size) wr u := by rw [hu]; exact onlyCells _ _ _
      have U : Lay u (w.heap.size) [.int .i64 0, .slice a1 n1 c1, .slice a2 n2 c2, .slice a3 n3 c3, .slice av k cv, .slice none 0 0, .int .i64 0] := by rw [hu]; exact LR.put (p := []) (q := [.int .i64 0, .slice none 0 0, .slice none 0 0, .slice none 0 0, .slice none 0 0, .slice none 0 0, .int .i64 0]) (r := []) [.int .i64 0, .slice a1 n1 c1, .slice a2 n2 c2, .slice a3 n3 c3, .slice av k cv, .slice none 0 0, .int .i64 0] rfl
      clear hu
      have e1 := (lvx.t.quad).1
      have e2 := (lvx.o.quad).1
      have e3 := (lvx.p.quad).1
      have zu := ou.size
      have zy := by'.size
      have hGY := HGY.out
      have ly := lvx.next by'
      have lr : LV wr _ (.slice a1 n1 c1) (.slice a2 n2 c2) (.slice a3 n3 c3) (newT T 0) (newO T 0) (newP T 0) := ly.onlyP (p := fun k => k = g) ⟨ho.os, ho.tape, ho.output, ho.size, fun k hk hn => ho.block k hk (fun e => hn (Option.some.inj e).symm)⟩ (fun b e e' => by have := (lvx.t.own e).2; omega) (fun b e e' => by have := (lvx.o.own e).2; omega) (fun b e e' => by have := (lvx.p.own e).2; omega)
      have lu : LV u _ (.slice a1 n1 c1) (.slice a2 n2 c2) (.slice a3 n3 c3) (newT T 0) (newO T 0) (newP T 0) := lr.onlyP (p := fun k => k = w.heap.size) ⟨ou.os, ou.tape, ou.output, ou.size, fun k hk hn => ou.block k hk hn⟩ (fun b e e' => by have := (lvx.t.own e).1; omega) (fun b e e' => by have := (lvx.o.own e).1; omega) (fun b e e' => by have := (lvx.p.own e).1; omega)
      have tp : TV wr y.heap.size wr.heap.size (.slice av k cv) (List.replicate k newPl) := row_places HO.out
      have tu : TV u y.heap.size wr.heap.size (.slice av k cv) (List.replicate k newPl) := tp.same ou.size (fun b a1 a2 a3 => ou.block b a3 (by omega))
      have bwr : Below w.heap.size w wr := (below_two bw by').trans (ho.below (fun q hq => by have h3 := Option.some.inj hq; omega) (by omega))
      refine bodyPost_ret (results_two rfl _ _ _ [.int .i64 0, .slice a1 n1 c1, .slice a2 n2 c2, .slice a3 n3 c3, .slice av k cv, .slice none 0 0, .int .i64 0] rfl U.cell Try.underlying39 rfl (by kernel_rfl)) rfl ?_
      refine ⟨a1, c1, a2, c2, a3, c3, av, cv, none, 0, by rw [← e1, ← e2, ← e3, List.length_replicate]; rfl, ?_, bwr.trans (ou.below (Nat.le_refl _) bwr.size)⟩
      rw [← e1, ← e2, ← e3, List.length_replicate]
      exact ⟨_, w2.heap.size, y.heap.size, wr.heap.size, y.heap.size, y.heap.size, ⟨by omega, by omega, by omega⟩, ⟨by omega, by omega, by omega⟩, lu, (fun b hb => by have := (LVB.out b hb); omega), tu, KV.zero _ _ _ _ _, .inl (by omega), .inl (by omega), .inr (Nat.le_refl _), by omega, by omega, by omega⟩
theorem specNewEng_any {w : World} {aT : Option Addr} (cT : Nat) {T : List Q4} (n : Int) (hT : Quad w.heap.size w aT T) : Calls Try.prog 11 #[.slice aT T.length cT, .int .i64 n] w (EgPost w 0 0 (nwT T n) (nwO T n) (nwP T n) (nwL T n) [] (.bool (nwB T n))) := by
  unfold nwT nwO nwP nwL
  cases h1 : newB_LendMath T 0
  · have e : nwB T n = false := by unfold nwB; rw [h1]; rfl
    rw [e]
    exact specNewEng_no1 cT n hT h1
  cases h2 : inQ 1 n 10
  · have e : nwB T n = false := by unfold nwB; rw [h1, h2]; rfl
    rw [e]
    exact specNewEng_no2 cT n hT h1 h2
  have e : nwB T n = true := by unfold nwB; rw [h1, h2]; rfl
  rw [e]
  obtain ⟨m, rfl⟩ : ∃ m : Nat, n = m := ⟨n.toNat, by unfold inQ at h2; simp only [Bool.and_eq_true, decide_eq_true_eq] at h2; omega⟩
  exact specNewEng_go cT m hT h1 h2
end Go.Proofs.Ytibfclfidaofkas
