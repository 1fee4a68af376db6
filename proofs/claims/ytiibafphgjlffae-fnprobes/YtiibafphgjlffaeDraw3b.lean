/- The draw of a filter. -/
import Derived.Test.YtiibafphgjlffaeDraw3
import Derived.Deep.RegionHeld3
import Derived.Deep.DeepCutAuto
namespace Go.Proofs.Ytiibafphgjlffae
open Go.ChangeShapes Go.WideShapes Go.ChangeAt Go.RowKit
set_option maxRecDepth 100000
set_option linter.unusedVariables false

theorem tab5_in (X : Nat) (h : X < 5) : ∃ y : Int, (#[Value.int IntKind.i64 (-1), Value.int IntKind.i64 1000000000000000, Value.int IntKind.i64 1000000000000001, Value.int IntKind.i64 3, Value.int IntKind.i64 (-9223372036854775808)] : Array Value)[X]? = some (.int .i64 y) := by
  match X, h with
  | 0, _ => exact ⟨_, rfl⟩
  | 1, _ => exact ⟨_, rfl⟩
  | 2, _ => exact ⟨_, rfl⟩
  | 3, _ => exact ⟨_, rfl⟩
  | 4, _ => exact ⟨_, rfl⟩
theorem tab4_in (X : Nat) (h : X < 4) : ∃ y : Int, (#[Value.int IntKind.i64 (-1), Value.int IntKind.i64 1000000000000, Value.int IntKind.i64 1000000000001, Value.int IntKind.i64 3] : Array Value)[X]? = some (.int .i64 y) := by
  match X, h with
  | 0, _ => exact ⟨_, rfl⟩
  | 1, _ => exact ⟨_, rfl⟩
  | 2, _ => exact ⟨_, rfl⟩
  | 3, _ => exact ⟨_, rfl⟩
set_option maxHeartbeats 16000000 in
set_option maxRecDepth 100000 in
theorem l3Draw_acc {B : Nat} {a0 : Option Addr} {len cap b : Nat} {w : World} (most : Bool) (k : Cur B a0 len cap b w) :
    Calls Try.prog 115 #[.pointer (some ⟨b, 0, none⟩), .bool most] w (LPost B a0 len cap b w) := by
  have D : Hid (DSt B a0 len cap b w ((w.alloc (.cells #[.slice none 0 0] 51)).alloc (.cells #[.slice none 0 0] 51)) none 0 0 []) := dst_start k
  go_enter Try.func115, Try.ntmps115
  go_wp2_with (first
    | (go_at_call 79; refine (below_acc _ D.out.cur (Only.refl _ _) (by omega) (by omega)).mono ?_; rintro e w2 ⟨x, rfl, hx, k2, o2⟩; have D : Hid (DSt B a0 len cap b w w2 none 0 0 []) := D.out.draw o2 k2))
  go_loopw [6, 7] (fun p i wr => ∃ (t : Int) (j : Nat) (a : Option Addr) (n c : Nat) (ys : List (Int × Int)), p = .int .i64 t ∧ i = .int .i64 j ∧ j ≤ 8 ∧ DSt B a0 len cap b w wr a n c ys) (fun _ i _ => (intOf i).toNat)
  case atStart =>
    exact ⟨_, x.toNat, none, 0, 0, [], rfl, by rw [Int.toNat_of_nonneg hx.1], by omega, D.out⟩
  case round =>
    obtain ⟨t, j, a, n, c, ys, rfl, rfl, hj, d⟩ := hrel
    have D : Hid (DSt B a0 len cap b w wr a n c ys) := d
    have hlt := d.lt
    have hsz := d.size
    have hfil := d.fil
    have hres := d.res
    clear d
    cases j with
    | succ j =>
      have hj0 : (0 : Int) < (j : Int) + 1 := by omega
      go_wp2
      go_cut [8, 9] from 18 to 37 (fun s t wd => D6 B a0 len cap b w a n c ys s t wd)
      case first =>
        have n0 : wr.heap.size ≠ w.heap.size + 1 := by omega
        have n1 : wr.heap.size ≠ b := by omega
        have hob : ∀ g, (Value.slice a n c).ownBlock = some g → g < wr.heap.size := fun g hg => (D.out.fv.own hg).2
        set_option maxRecDepth 100000 in
        go_region_held3 (fun w' => w'.cell? ⟨w.heap.size + 1, 0, none⟩ = some (.slice a n c)) (first | assumption | (simp only [World.cell?_drew]; assumption) | go_keep)
          (first
            | (go_at_call 79; refine (below_acc _ (D.out.cur.mono (by go_grown)) (Only.refl _ _) (by omega) (by omega)).mono ?_; rintro e vB ⟨x, rfl, hx, kB, oB⟩; have dB : Hid (DSt B a0 len cap b w vB a n c ys) := (D.out.next (by go_grown)).draw oB kB; have kc := only_cells oB; have kf := only_frozens oB; have zB := oB.size; (try simp at zB); have j0 := dB.out.fil; have n2 : vB.heap.size ≠ w.heap.size + 1 := (by omega); (try (have y1 : wr.heap.size < vB.heap.size := (by omega))))
            | (go_at_call 96; refine (specPush_fv (dB.out.fv.next (by go_grown)) _ _ _ _).mono ?_; rintro e vP ⟨zs, fz, aP, nP, cP, rfl, hzs, hfv, hbP⟩; have dP : Hid (DSt B a0 len cap b w vP a n c ys) := dB.out.next (below_step (by go_grown) hbP); have kc := below_cells hbP; have kf := below_frozens hbP; have zP := hbP.size; (try simp at zP); (try simp only [World.size_alloc] at hfv); have j0 := dP.out.fil; have n3 : vP.heap.size ≠ w.heap.size + 1 := (by omega)))
        all_goals (repeat go_step)
        all_goals go_meet
        all_goals first | exact d6_alloc dP.out hfv (by omega) hzs | exact d6_set (u := .slice none 0 0) dP.out hfv hzs (by omega) (by omega) (by go_simp) (fun g hg => (by have := hob g hg; omega))
      case rest =>
        obtain ⟨b8, f, a', n', c', zs, rfl, rfl, d, hb8, hb8', q8, fv8, hz⟩ := hcut
        have D : Hid (DSt B a0 len cap b w wc a n c ys) := d
        have hsz := d.size
        have hfil := d.fil
        have hfilF := d.filF
        clear d
        have hjw : IntKind.i64.wrap (j : Int) = (j : Int) := by rw [IntKind.wrap_i64]; omega
        cases f
        · go_wp2_with (first
            | (go_at_call 79; refine (below_acc _ D.out.cur (Only.refl _ _) (by omega) (by omega)).mono ?_; rintro e vC ⟨x, rfl, hx, kC, oC⟩; have dC : Hid (DSt B a0 len cap b w vC a n c ys) := D.out.draw oC kC))
          exact ⟨⟨_, j, a, n, c, ys, rfl, by go_num, by omega, dC.out⟩, by simp [intOf]⟩
        · go_wp2_with (first
            | (go_at_call 79; refine (below_acc _ (D.out.put fv8 hz).cur (Only.refl _ _) (by omega) (by omega)).mono ?_; rintro e vC ⟨x, rfl, hx, kC, oC⟩; have dC : Hid (DSt B a0 len cap b w vC a' n' c' zs) := (D.out.put fv8 hz).draw oC kC))
          exact ⟨⟨_, j, a', n', c', zs, rfl, by go_num, by omega, dC.out⟩, by simp [intOf]⟩
    | zero =>
      go_upto_region 10 with fail
      go_cut [45] from 38 (fun s wd => ∃ f, s = .bool f ∧ (f = true → 0 < n) ∧ DSt B a0 len cap b w wd a n c ys)
      case first =>
        by_cases hn : 0 < n
        · have hn' : decide (0 < n) = true := decide_eq_true hn
          go_wp2_with (first
            | (go_at_call 80; refine (once_acc _ D.out.cur (Only.refl _ _) (by omega) (by omega)).mono ?_; rintro e vO ⟨f, rfl, kO, oO⟩; have dO : Hid (DSt B a0 len cap b w vO a n c ys) := D.out.draw oO kO; have hfil := dO.out.fil; cases f))
          all_goals go_meet
          all_goals exact ⟨_, rfl, fun _ => hn, dO.out⟩
        · have hn' : decide (0 < n) = false := decide_eq_false hn
          go_wp2_with (first
            | (go_at_call 80; refine (once_acc _ D.out.cur (Only.refl _ _) (by omega) (by omega)).mono ?_; rintro e vO ⟨f, rfl, kO, oO⟩; have dO : Hid (DSt B a0 len cap b w vO a n c ys) := D.out.draw oO kO; have hfil := dO.out.fil; cases f))
          all_goals go_meet
          all_goals exact ⟨_, rfl, (fun e => (by cases e)), dO.out⟩
      case rest =>
      obtain ⟨f, rfl, hfn, d⟩ := hcut
      obtain ⟨v2, hv2⟩ : ∃ v2, v2 = wc := ⟨_, rfl⟩
      subst hv2
      have D : Hid (DSt B a0 len cap b w v2 a n c ys) := d
      have hsz := d.size
      have hfil := d.fil
      clear d hres
      go_upto_if 45 with fail
      go_cut [] from 38 (fun wd => ∃ ys, DSt B a0 len cap b w wd a n c ys)
      case first =>
        cases f
        · go_wp2
          go_meet
          exact ⟨ys, D.out⟩
        · obtain ⟨g, rfl, hg0, hg1, fg, hnc⟩ := D.out.fv.pos (hfn rfl)
          have hn := hfn rfl
          have hn101 : n ≤ 101 := by have := D.out.fv.smp.1; have := D.out.le; omega
          go_wp2
          set_option maxRecDepth 100000 in
          go_region_held3 (fun w' => w'.cell? ⟨w.heap.size + 1, 0, none⟩ = some (.slice (some ⟨g, 0, none⟩) n c)) (first | assumption | (simp only [World.cell?_drew]; assumption) | go_keep)
            (first
              | (go_at_call 79; refine (below_acc _ (D.out.cur.mono (by go_grown)) (Only.refl _ _) (by omega) (by omega)).mono ?_; rintro e vB ⟨x', rfl, hx', kB, oB⟩; obtain ⟨X, rfl⟩ := Int.eq_ofNat_of_zero_le hx'.1; have hX : X < n := (by omega); have hX1 : (X : Int) < (n : Int) := (by omega); have dB : Hid (DSt B a0 len cap b w vB (some ⟨g, 0, none⟩) n c ys) := (D.out.next (by go_grown)).draw oB kB; have j0 := dB.out.fil))
          go_wp2_with (first
            | (go_at_call_of 79 (Value.int IntKind.i64 2); refine (below_acc 2 dB.out.cur (Only.refl _ _) (by omega) (by omega)).mono ?_; rintro e vD ⟨xD, rfl, hxD, kD, oD⟩; have dB : Hid (DSt B a0 len cap b w vD (some ⟨g, 0, none⟩) n c ys) := dB.out.draw oD kD; rcases (show xD = 0 ∨ xD = 1 from (by omega)) with rfl | rfl)
            | (go_at_call_of 79 (Value.int IntKind.i64 5); refine (below_acc 5 (dB.out.cur.alloc _) (Only.refl _ _) (by omega) (by omega)).mono ?_; rintro e vT ⟨xT, rfl, hxT, kT, oT⟩; obtain ⟨Y, rfl⟩ := Int.eq_ofNat_of_zero_le hxT.1; obtain ⟨y, hy⟩ := tab5_in Y (by omega); have hcell := (table_cell dB.out.cur.hi oT Y).trans hy; clear hy; have dT : Hid (DSt B a0 len cap b w vT (some ⟨g, 0, none⟩) n c ys) := (dB.out.next (new_below _ _)).draw oT kT; obtain ⟨g2, e2, _, hg2, fT, _⟩ := dT.out.fv.pos hn; obtain rfl : g = g2 := (by cases e2; rfl); obtain ⟨⟨z0, e0⟩, u0⟩ := fT.any (X * 2) (by omega); obtain ⟨⟨z1, e1⟩, u1⟩ := fT.any (X * 2 + 1) (by omega))
            | (go_at_call_of 79 (Value.int IntKind.i64 4); refine (below_acc 4 (dB.out.cur.alloc _) (Only.refl _ _) (by omega) (by omega)).mono ?_; rintro e vT ⟨xT, rfl, hxT, kT, oT⟩; obtain ⟨Y, rfl⟩ := Int.eq_ofNat_of_zero_le hxT.1; obtain ⟨y, hy⟩ := tab4_in Y (by omega); have hcell := (table_cell dB.out.cur.hi oT Y).trans hy; clear hy; have dT : Hid (DSt B a0 len cap b w vT (some ⟨g, 0, none⟩) n c ys) := (dB.out.next (new_below _ _)).draw oT kT; obtain ⟨g2, e2, _, hg2, fT, _⟩ := dT.out.fv.pos hn; obtain rfl : g = g2 := (by cases e2; rfl); obtain ⟨⟨z0, e0⟩, u0⟩ := fT.any (X * 2) (by omega); obtain ⟨⟨z1, e1⟩, u1⟩ := fT.any (X * 2 + 1) (by omega)))
          all_goals go_meet
          all_goals first | exact dT.out.item hn (by omega)
      case rest =>
      obtain ⟨ys', d⟩ := hcut
      obtain ⟨v3, hv3⟩ : ∃ v3, v3 = wc := ⟨_, rfl⟩
      subst hv3
      have D : Hid (DSt B a0 len cap b w v3 a n c ys') := d
      have hsz := d.size
      have hfil := d.fil
      have hfilF := d.filF
      clear d
      go_upto_if 77 with (first
        | (go_at_call 80; refine (once_acc _ D.out.cur (Only.refl _ _) (by omega) (by omega)).mono ?_; rintro e vO ⟨f, rfl, kO, oO⟩; have dO : Hid (DSt B a0 len cap b w vO a n c ys') := D.out.draw oO kO; have hfil := dO.out.fil; have hfilF := dO.out.filF; have hsz := dO.out.size))
      go_cut [] from 38 (fun wd => ∃ a n c ys, DSt B a0 len cap b w wd a n c ys)
      case first =>
        cases f
        · go_wp2
          go_meet
          exact ⟨_, _, _, _, dO.out⟩
        · obtain ⟨i0, hi, hz0, hz1, hz2⟩ := info_parts info_smp
          have dP : Hid (DSt B a0 len cap b w (vO.setCell ⟨w.heap.size + 1, 0, none⟩ (.slice none 0 0)) none 0 0 []) := dO.out.put (.inr ⟨rfl, rfl⟩) (by simp)
          go_wp2
          go_loopw [11] (fun i wr => ∃ (j : Nat) (a : Option Addr) (n c : Nat) (zs : List (Int × Int)), i = .int .i64 j ∧ j ≤ 101 ∧ zs.length = j ∧ DSt B a0 len cap b w wr a n c zs ∧ wr.ownsRow (w.heap.size + 2) 87 2 (.slice a n c) zs.length (flat zs)) (fun i _ => 102 - (intOf i).toNat)
          case atStart => exact ⟨0, none, 0, 0, [], rfl, by omega, rfl, dP.out, World.ownsRow_nil _ _ _ _⟩
          case round =>
            obtain ⟨j, aL, nL, cL, zs, rfl, hj, hzj, d, hown⟩ := hrel
            have dL : Hid (DSt B a0 len cap b w wr aL nL cL zs) := d
            have HZ : Hid (zs.length = j) := hzj
            clear d hzj
            cases most
            · go_wp2_with (first
                | (go_at_call 79; refine (below_acc _ dL.out.cur (Only.refl _ _) (by omega) (by omega)).mono ?_; rintro e vB ⟨x3, rfl, hx3, kB, oB⟩; have dB : Hid (DSt B a0 len cap b w vB aL nL cL zs) := dL.out.draw oB kB; have hoB := own_only hown oB (by omega); have hfil := dB.out.fil; have hfilF := dB.out.filF; have hsB := dB.out.size; have hbB := dB.out.lt; by_cases hj3 : (j : Int) < 100 + x3)
                | (at_builtin; refine wpList_append_own _ rfl _ _ 49 rfl (w.heap.size + 2) 87 i0 _ 2 16 Try.underlying49 hi hz0 hz1 hz2 rfl (by decide) (.slice aL nL cL) zs.length (flat zs) rfl (hoB.alloc _) ⟨vB.heap.size, 0, none⟩ 1 1 [.int .i64 ((j : Int) * 3), .int .i64 (5000 + (j : Int))] rfl rfl ?m1 ?m2 ?m3 ?m4 ?m5 ?m6; rotate_left 5; intro v' w' hown' hgr hnil; have hbw' : Below (w.heap.size + 2) vB w' := (((Below.refl (w.heap.size + 2) vB).alloc (by omega) (.cells #[.int .i64 ((j : Int) * 3), .int .i64 (5000 + (j : Int))] 87)).grown hgr (by simp; omega) (fun g hg => (hoB.lt g hg).1)); have hown2 : w'.ownsRow (w.heap.size + 2) 87 2 v' (zs ++ [((j : Int) * 3, 5000 + (j : Int))]).length (flat (zs ++ [((j : Int) * 3, 5000 + (j : Int))])) := (by rw [flat_append, List.length_append]; exact hown'); obtain ⟨aN, nN, cN, rfl, hfvN⟩ := own_fv hown2; have hf1 := (below_cells' hbw' (w.heap.size + 1) 0 (by omega)).trans hfil; have hf2 := (below_frozens' hbw' (w.heap.size + 1) 0 (by omega)).trans hfilF))
              · exact ⟨⟨j + 1, aN, nN, cN, zs ++ [((j : Int) * 3, 5000 + (j : Int))], by go_num, by omega, by rw [List.length_append, HZ.out]; rfl, dB.out.turn hbw' hfvN (by rw [List.length_append, HZ.out]; simp; omega), own_only (b := w.heap.size + 1) hown2 ((Only.refl (w.heap.size + 1) w').setCell (p := ⟨w.heap.size + 1, 0, none⟩) rfl _) (by omega)⟩, by simp [intOf]; omega⟩
              case m1 => exact pair_news (by go_simp) (by go_simp)
              case m2 => exact flat_one' [((j : Int) * 3, 5000 + (j : Int))]
              case m3 => rw [HZ.out]; unfold maxLen; omega
              case m4 => rw [HZ.out]; omega
              case m5 => simp; omega
              go_meet
              exact ⟨_, _, _, _, dB.out⟩
            · go_wp2_with (first
                | (go_at_call 79; refine (below_acc _ dL.out.cur (Only.refl _ _) (by omega) (by omega)).mono ?_; rintro e vB ⟨x3, rfl, hx3, kB, oB⟩; have dB : Hid (DSt B a0 len cap b w vB aL nL cL zs) := dL.out.draw oB kB; have hoB := own_only hown oB (by omega); have hfil := dB.out.fil; have hfilF := dB.out.filF; have hsB := dB.out.size; have hbB := dB.out.lt; by_cases hj3 : (j : Int) < 100 + x3)
                | (at_builtin; refine wpList_append_own _ rfl _ _ 49 rfl (w.heap.size + 2) 87 i0 _ 2 16 Try.underlying49 hi hz0 hz1 hz2 rfl (by decide) (.slice aL nL cL) zs.length (flat zs) rfl (hoB.alloc _) ⟨vB.heap.size, 0, none⟩ 1 1 [.int .i64 ((j : Int) * 3), .int .i64 (5000 - (j : Int))] rfl rfl ?n1 ?n2 ?n3 ?n4 ?n5 ?n6; rotate_left 5; intro v' w' hown' hgr hnil; have hbw' : Below (w.heap.size + 2) vB w' := (((Below.refl (w.heap.size + 2) vB).alloc (by omega) (.cells #[.int .i64 ((j : Int) * 3), .int .i64 (5000 - (j : Int))] 87)).grown hgr (by simp; omega) (fun g hg => (hoB.lt g hg).1)); have hown2 : w'.ownsRow (w.heap.size + 2) 87 2 v' (zs ++ [((j : Int) * 3, 5000 - (j : Int))]).length (flat (zs ++ [((j : Int) * 3, 5000 - (j : Int))])) := (by rw [flat_append, List.length_append]; exact hown'); obtain ⟨aN, nN, cN, rfl, hfvN⟩ := own_fv hown2; have hf1 := (below_cells' hbw' (w.heap.size + 1) 0 (by omega)).trans hfil; have hf2 := (below_frozens' hbw' (w.heap.size + 1) 0 (by omega)).trans hfilF))
              · exact ⟨⟨j + 1, aN, nN, cN, zs ++ [((j : Int) * 3, 5000 - (j : Int))], by go_num, by omega, by rw [List.length_append, HZ.out]; rfl, dB.out.turn hbw' hfvN (by rw [List.length_append, HZ.out]; simp; omega), own_only (b := w.heap.size + 1) hown2 ((Only.refl (w.heap.size + 1) w').setCell (p := ⟨w.heap.size + 1, 0, none⟩) rfl _) (by omega)⟩, by simp [intOf]; omega⟩
              case n1 => exact pair_news (by go_simp) (by go_simp)
              case n2 => exact flat_one' [((j : Int) * 3, 5000 - (j : Int))]
              case n3 => rw [HZ.out]; unfold maxLen; omega
              case n4 => rw [HZ.out]; omega
              case n5 => simp; omega
              go_meet
              exact ⟨_, _, _, _, dB.out⟩
      case rest =>
        obtain ⟨aE, nE, cE, zs, d⟩ := hcut
        have DE : Hid (DSt B a0 len cap b w wc aE nE cE zs) := d
        have hsz := d.size
        have hfil := d.fil
        have hres := d.res
        have hresF := d.resF
        clear d
        go_wp2
        refine bodyPost_ret (results_one rfl _ _ _ [.slice aE nE cE] rfl (cells_one (set_same (u := .slice none 0 0) _ hres)) Try.underlying51 rfl (by kernel_rfl)) rfl ?_
        obtain ⟨h1, h2, h3⟩ := DE.out.done
        exact ⟨aE, nE, cE, zs, rfl, h1, DE.out.le, h2, h3⟩
end Go.Proofs.Ytiibafphgjlffae
