/- The draw of a tree: spec.l6Draw. -/
import Derived.Test.YtdgefdjgpneanadDraw6
import Derived.Deep.DeepCutAuto
namespace Go.Proofs.Ytdgefdjgpneanad
open Go.ChangeShapes Go.WideShapes Go.ChangeAt Go.RowKit
set_option maxRecDepth 100000
set_option linter.unusedVariables false
set_option linter.unusedSimpArgs false

theorem own_some {w : World} {base : Nat} {e : TypeId} {s n : Nat} {v : Value} {xs : List Value} (h : w.ownsRow base e s v n xs) (hn : 1 ≤ n) : ∃ g cap, v = .slice (some ⟨g, 0, none⟩) n cap ∧ base ≤ g ∧ g < w.heap.size := by
  rcases h.2 with ⟨rfl, h0⟩ | ⟨g, cap, cur, rfl, hb, _⟩
  · omega
  · exact ⟨g, cap, rfl, hb, (h.lt g rfl).2⟩
/-- Both rows of the draw. -/
structure T2St (B : Nat) (a0 : Option Addr) (len cap b : Nat) (w wr : World) (v : Value) (T : List Q4) (u : Value) (S : List Int) : Prop where
  st : TSt B a0 len cap b w wr v T
  sp : wr.ownsRow w.heap.size 2 1 u S.length (flatI S)
section
variable {B : Nat} {a0 : Option Addr} {len cap b : Nat} {w wr : World} {v u : Value} {T : List Q4} {S : List Int}
theorem T2St.draw (d : T2St B a0 len cap b w wr v T u S) {w2 : World} (o : Only b wr w2) (k : Cur B a0 len cap b w2) : T2St B a0 len cap b w w2 v T u S := ⟨d.st.draw o k, row_only d.sp o d.st.lt⟩
theorem T2St.next (d : T2St B a0 len cap b w wr v T u S) {w2 : World} (h : Below wr.heap.size wr w2) : T2St B a0 len cap b w w2 v T u S := ⟨d.st.next h, row_next d.sp h⟩
theorem T2St.cells {g c : Nat} (d : T2St B a0 len cap b w wr v T (.slice (some ⟨g, 0, none⟩) S.length c) S) {p : Nat} (hp : p < S.length) : wr.cell? ⟨g, p, none⟩ = some (.int .i64 S[p]) ∧ wr.frozen? ⟨g, p, none⟩ = false :=
  ⟨(d.sp.cellAt p (by omega)).trans (flatI_at hp), d.sp.frozenAt p⟩
theorem T2St.ceil {g c : Nat} (d : T2St B a0 len cap b w wr (.slice (some ⟨g, 0, none⟩) T.length c) T u S) {p : Nat} (hp : p < T.length) : wr.cell? ⟨g, p * 4 + 2, none⟩ = some (.int .i64 T[p].2.2.1) :=
  (d.st.own.cellAt _ (by omega)).trans (flatQ_get T p hp).2.2.1
theorem T2St.put {g c : Nat} (d : T2St B a0 len cap b w wr v T (.slice (some ⟨g, 0, none⟩) S.length c) S) (hg : w.heap.size ≤ g) (p : Nat) (x : Int) : T2St B a0 len cap b w (wr.setCell ⟨g, p, none⟩ (.int .i64 x)) v T (.slice (some ⟨g, 0, none⟩) (S.set p x).length c) (S.set p x) := by
  have h := d.sp.stored p (.int .i64 x)
  have hs : (wr.setCell ⟨g, p, none⟩ (.int .i64 x)).ownsRow w.heap.size 2 1 (.slice (some ⟨g, 0, none⟩) (S.set p x).length c) (S.set p x).length (flatI (S.set p x)) := by
    rw [List.length_set, ← flatI_set]
    exact h.1
  refine ⟨d.st.list ((Below.refl _ _).setCell (p := ⟨g, p, none⟩) hg _) (d.st.own.kept h.2 ?_), hs⟩
  exact rows_keep d.st.own d.sp (by decide)
theorem T2St.app (d : T2St B a0 len cap b w wr v T u S) {w' : World} {v' : Value} {x : Q4} (hg : wr.grownBy w' v.ownBlock) (ho : w'.ownsRow w.heap.size 34 4 v' (T.length + 1) (flatQ T ++ flatQ [x])) : T2St B a0 len cap b w w' v' (T ++ [x]) u S :=
  ⟨d.st.list (d.st.below hg (fun g e => (d.st.own.lt g e).1)) (by rw [flatQ_append, List.length_append]; exact ho), d.sp.kept hg (rows_keep d.sp d.st.own (by decide))⟩
theorem T2St.appI (d : T2St B a0 len cap b w wr v T u S) {w' : World} {u' : Value} {x : Int} (hg : wr.grownBy w' u.ownBlock) (ho : w'.ownsRow w.heap.size 2 1 u' (S.length + 1) (flatI S ++ flatI [x])) : T2St B a0 len cap b w w' v T u' (S ++ [x]) :=
  ⟨d.st.list (d.st.below hg (fun g e => (d.sp.lt g e).1)) (d.st.own.kept hg (rows_keep d.st.own d.sp (by decide))), by rw [flatI_append, List.length_append]; exact ho⟩
end
set_option maxHeartbeats 8000000 in
theorem l6Draw_acc {B : Nat} {a0 : Option Addr} {len cap b : Nat} {w : World} (k : Cur B a0 len cap b w) :
    Calls Try.prog 114 #[.pointer (some ⟨b, 0, none⟩)] w (fun e w' => ∃ a n c T, e = .returned (.slice a n c) ∧ TSt B a0 len cap b w w' (.slice a n c) T ∧ (1 ≤ T.length ∧ T.length ≤ 8)) := by
  obtain ⟨i0, hi, hz0, hz1, hz2⟩ := info_parts info_class
  obtain ⟨j0, hj, jz0, jz1, jz2⟩ := info_parts info_i64
  have hlt := k.hi
  go_enter Try.func114, Try.ntmps114
  go_upto_region 2 with (first
    | (go_at_call 62; have g1 := x1q; refine (below_acc _ k1 o1 (by omega) (by omega)).mono ?_; rintro e w2 ⟨x2, rfl, hx2, k2, o2⟩)
    | (go_at_call 62; refine (below_acc _ k (Only.refl _ _) (by omega) (by omega)).mono ?_; rintro e w1 ⟨x1, rfl, hx1, k1, o1⟩; have x1q := hx1))
  obtain ⟨R, hR⟩ : ∃ R, 100000 + x1 = R := ⟨_, rfl⟩
  obtain ⟨U, hU⟩ : ∃ U, 1500 + x2 = U := ⟨_, rfl⟩
  rw [hR, hU]
  have hR0 : 100000 ≤ R := by omega
  have hR1 : R ≤ 1100000 := by omega
  clear hR hU hx1 hx2 x1q
  have zw := o2.size
  have D : Hid (TSt B a0 len cap b w (w2.alloc (.cells #[.int .i64 (-1), .int .i64 R, .int .i64 0, .int .i64 U] 34)) (.slice (some ⟨w2.heap.size, 0, none⟩) 1 1) [(-1, R, 0, U)]) :=
    ⟨k2.alloc _, o2.alloc _, hlt, own_fresh w2 w.heap.size zw _ _ _ _⟩
  clear k1 o1 k2 o2
  obtain ⟨v2, hv2⟩ : ∃ v2, w2.alloc (.cells #[.int .i64 (-1), .int .i64 R, .int .i64 0, .int .i64 U] 34) = v2 := ⟨_, rfl⟩
  rw [hv2] at D ⊢
  have zv : w2.heap.size < v2.heap.size := by rw [← hv2]; simp
  obtain ⟨g, hg⟩ : ∃ g, w2.heap.size = g := ⟨_, rfl⟩
  rw [hg] at D zv zw ⊢
  clear hg hv2
  have cR : v2.cell? ⟨g, 1, none⟩ = some (.int .i64 R) := D.out.own.cellAt 1 (by decide)
  go_cut [] from 16 to 25 (fun wd => ∃ y, (0 ≤ y ∧ y < 500000) ∧ TSt B a0 len cap b w wd (.slice (some ⟨g, 0, none⟩) 1 1) [(-1, R, R + y, U)])
  case first =>
    go_region_held3 (fun w' => w'.cell? ⟨g, 1, none⟩ = some (.int .i64 R)) (first | assumption | (simp only [World.cell?_drew]; assumption) | (exact (set_other (by decide)).trans (by assumption)) | go_keep)
      (first
        | (go_at_call 62; refine (below_acc 500000 (D.out.next (by go_grown)).cur (Only.refl _ _) (by omega) (by omega)).mono ?_; rintro e vB ⟨y, rfl, hy, kB, oB⟩; have DB : Hid (TSt B a0 len cap b w vB (.slice (some ⟨g, 0, none⟩) 1 1) [(-1, R, 0, U)]) := (D.out.next (by go_grown)).draw oB kB; have j0' : vB.cell? ⟨g, 1, none⟩ = some (.int .i64 R) := DB.out.own.cellAt 1 (by decide); have j2' : vB.cell? ⟨g, 2, none⟩ = some (.int .i64 0) := DB.out.own.cellAt 2 (by decide); have jF : vB.frozen? ⟨g, 2, none⟩ = false := DB.out.own.frozenAt 2; have e1 : IntKind.i64.wrap (R + y) = R + y := (by rw [IntKind.wrap_i64]; omega)))
    all_goals (repeat go_step)
    all_goals go_meet
    all_goals exact ⟨y, hy, DB.out.list ((Below.refl _ _).setCell (p := ⟨g, 2, none⟩) zw _) (DB.out.own.stored 2 _).1⟩
  case rest =>
    clear D cR
    obtain ⟨y, hy, d⟩ := hcut
    have D : Hid (TSt B a0 len cap b w wc (.slice (some ⟨g, 0, none⟩) 1 1) [(-1, R, R + y, U)]) := d
    have cR : wc.cell? ⟨g, 1, none⟩ = some (.int .i64 R) := d.own.cellAt 1 (by decide)
    have zc := d.only.size
    clear d
    go_upto_region 4 with (fail)
    have D2 : Hid (T2St B a0 len cap b w (wc.alloc (.cells #[.int .i64 R] 2)) (.slice (some ⟨g, 0, none⟩) 1 1) [(-1, R, R + y, U)] (.slice (some ⟨wc.heap.size, 0, none⟩) 1 1) [R]) :=
      ⟨D.out.next (new_below _ _), own_freshI wc w.heap.size zc R⟩
    have HD : Hid (DOk [(-1, R, R + y, U)] [R]) := DOk.one (by omega) (by omega) (by omega)
    clear D
    go_wp2_with (first
      | (go_at_call 62; refine (below_acc _ D2.out.st.cur (Only.refl _ _) (by omega) (by omega)).mono ?_; rintro e w4 ⟨x4, rfl, hx4, k4, o4⟩; have D3 : Hid (T2St B a0 len cap b w w4 (.slice (some ⟨g, 0, none⟩) 1 1) [(-1, R, R + y, U)] (.slice (some ⟨wc.heap.size, 0, none⟩) 1 1) [R]) := D2.out.draw o4 k4))
    go_loopw [3, 4, 5] (fun vo vs s wr => ∃ (j : Nat) (T : List Q4) (S : List Int), s = .int .i64 j ∧ T.length + j ≤ 8 ∧ Hid (DOk T S) ∧ Hid (T2St B a0 len cap b w wr vo T vs S)) (fun _ _ s _ => (intOf s).toNat)
    case atStart => exact ⟨x4.toNat, _, _, by rw [Int.toNat_of_nonneg hx4.1], by simp; omega, HD, D3⟩
    case round =>
      clear D2 D3 HD cR hy hx4 k4 o4
      obtain ⟨j, T, S, rfl, hjl, HD, D⟩ := hrel
      have hT1 := HD.out.2.1
      obtain ⟨go, co, rfl, hgo, hgo'⟩ := own_some D.out.st.own hT1
      have hS1 : 1 ≤ S.length := by rw [HD.out.1]; exact hT1
      obtain ⟨gs, cs, rfl, hgs, hgs'⟩ := own_some D.out.sp hS1
      cases j with
      | zero =>
        go_wp2
        go_ret
        exact ⟨_, _, _, T, rfl, D.out.st, hT1, by omega⟩
      | succ j =>
        have hj0 : (0 : Int) < (j : Int) + 1 := by omega
        have hT1' : (1 : Int) ≤ (T.length : Int) := by omega
        have hTn : (T.length : Int) ≤ 8 := by omega
        go_upto_region 8 with (first
          | (go_at_call 62; refine (below_acc _ D.out.st.cur (Only.refl _ _) (by omega) (by omega)).mono ?_; rintro e v1 ⟨xp, rfl, hxp, k1, o1⟩; have D1 : Hid (T2St B a0 len cap b w v1 (.slice (some ⟨go, 0, none⟩) T.length co) T (.slice (some ⟨gs, 0, none⟩) S.length cs) S) := D.out.draw o1 k1))
        obtain ⟨p, rfl⟩ := Int.eq_ofNat_of_zero_le hxp.1
        have hp : p < T.length := by omega
        have hp' : p < S.length := by rw [HD.out.1]; exact hp
        have hpS : (p : Int) < (S.length : Int) := by omega
        have hpT : (p : Int) < (T.length : Int) := by omega
        have hnum := HD.out.2.2 p hp hp'
        obtain ⟨s, hs⟩ : ∃ s, S[p] = s := ⟨_, rfl⟩
        obtain ⟨c, hc⟩ : ∃ c, T[p].2.2.1 = c := ⟨_, rfl⟩
        have HS : Hid (S[p] = s) := hs
        have HC : Hid (T[p].2.2.1 = c) := hc
        rw [hs, hc] at hnum
        clear hs hc
        have n0 := hnum.1
        have n1 := hnum.2.1
        have n2 := hnum.2.2
        clear hnum hxp
        have c1 := (D1.out.cells hp').1
        rw [HS.out] at c1
        go_upto_region 9 with (first
          | (go_at_call 62; refine (below_acc _ D1.out.st.cur (Only.refl _ _) (by omega) (by omega)).mono ?_; rintro e v2 ⟨r, rfl, hr, k2, o2⟩; have D2 : Hid (T2St B a0 len cap b w v2 (.slice (some ⟨go, 0, none⟩) T.length co) T (.slice (some ⟨gs, 0, none⟩) S.length cs) S) := D1.out.draw o2 k2))
        go_upto_if 49 with (first
          | (go_at_call 61; refine (once_acc _ D2.out.st.cur (Only.refl _ _) (by omega) (by omega)).mono ?_; rintro e v3 ⟨f, rfl, k3, o3⟩; have D3 : Hid (T2St B a0 len cap b w v3 (.slice (some ⟨go, 0, none⟩) T.length co) T (.slice (some ⟨gs, 0, none⟩) S.length cs) S) := D2.out.draw o3 k3))
        have c3 := (D3.out.cells hp').1
        rw [HS.out] at c3
        go_cut [7] from 50 to 54 (fun q wd => wd = v3 ∧ ∃ r : Int, q = .int .i64 r ∧ 0 ≤ r ∧ r ≤ s)
        case first =>
          cases f
          · go_wp2
            go_meet
            exact ⟨rfl, r, rfl, hr.1, by omega⟩
          · go_wp2
            go_meet
            exact ⟨rfl, s / 2, rfl, by omega, by omega⟩
        case rest =>
          obtain ⟨hwv, q, rfl, q0, q1⟩ := hcut
          subst hwv
          clear D D1 D2 hr c1 k1 o1 k2 o2 k3 o3
          have cF := (D3.out.cells hp').2
          go_upto_region 12 with (fail)
          have D4 : Hid (T2St B a0 len cap b w (wc.setCell ⟨gs, p, none⟩ (.int .i64 (s - q))) (.slice (some ⟨go, 0, none⟩) T.length co) T (.slice (some ⟨gs, 0, none⟩) S.length cs) (S.set p (s - q))) := by
            have h := D3.out.put hgs p (s - q)
            rw [List.length_set] at h
            exact h
          obtain ⟨v4, hv4⟩ : ∃ v4, wc.setCell ⟨gs, p, none⟩ (.int .i64 (s - q)) = v4 := ⟨_, rfl⟩
          rw [hv4] at D4 ⊢
          clear hv4 D3 c3 cF
          have c4 := D4.out.ceil hp
          rw [HC.out] at c4
          go_upto_region 13 with (first
            | (go_at_call 62; have g1 := m5; refine (below_acc _ D5.out.st.cur (Only.refl _ _) (by omega) (by omega)).mono ?_; rintro e v6 ⟨z, rfl, hz, k6, o6⟩; have D6 : Hid (T2St B a0 len cap b w v6 (.slice (some ⟨go, 0, none⟩) T.length co) T (.slice (some ⟨gs, 0, none⟩) S.length cs) (S.set p (s - q))) := D5.out.draw o6 k6)
            | (go_at_call 62; refine (below_acc _ D4.out.st.cur (Only.refl _ _) (by omega) (by omega)).mono ?_; rintro e v5 ⟨x, rfl, hx, k5, o5⟩; have D5 : Hid (T2St B a0 len cap b w v5 (.slice (some ⟨go, 0, none⟩) T.length co) T (.slice (some ⟨gs, 0, none⟩) S.length cs) (S.set p (s - q))) := D4.out.draw o5 k5; have m5 := hx)
            | (at_builtin; refine wpList_append_own _ rfl _ _ 24 rfl w.heap.size 34 i0 _ 4 32 Try.underlying24 hi hz0 hz1 hz2 rfl (by decide) _ _ _ rfl (D6.out.st.own.alloc _) ⟨v6.heap.size, 0, none⟩ 1 1 [.int .i64 (p : Int), .int .i64 q, .int .i64 (q + x), .int .i64 (1500 + z)] rfl rfl ?c1 ?c2 ?c3 ?c4 ?c5 ?c6; rotate_left 5; intro v' w' hown' hgr hnil))
          case c1 => exact four_news (by go_simp) (by go_simp) (by go_simp) (by go_simp)
          case c2 => exact flatQ_cell [((p : Int), q, q + x, 1500 + z)]
          case c3 => unfold maxLen; omega
          case c4 => omega
          case c5 => have := D6.out.st.only.size; simp; omega
          have D7 : Hid (T2St B a0 len cap b w w' v' (T ++ [((p : Int), q, q + x, 1500 + z)]) (.slice (some ⟨gs, 0, none⟩) S.length cs) (S.set p (s - q))) := (D6.out.next (new_below _ _)).app hgr hown'
          obtain ⟨a', c', rfl⟩ := own_slice hown'
          have HD2 : Hid (DOk (T ++ [((p : Int), q, q + x, 1500 + z)]) (S.set p (s - q) ++ [q])) := by
            have h := HD.out.more hp hp' (r := q) (x := x) (z := 1500 + z) q0 (by rw [HS.out]; exact q1) hx.1 (by omega)
            rw [HS.out] at h
            exact h
          have hSl : (S.set p (s - q)).length ≤ 8 := by rw [List.length_set, HD.out.1]; omega
          have hw7 := D7.out.st.only.size
          clear D4 D5 D6 k5 o5 k6 o6 m5 c4 hgr hnil hown'
          go_wp2_with (first
            | (at_builtin; refine wpList_append_own _ rfl _ _ 51 rfl w.heap.size 2 j0 _ 1 8 Try.underlying51 hj jz0 jz1 jz2 rfl (by decide) _ _ _ rfl (D7.out.sp.alloc _) ⟨w'.heap.size, 0, none⟩ 1 1 [.int .i64 q] rfl rfl ?d1 ?d2 ?d3 ?d4 ?d5 ?d6; rotate_left 5; intro u' w8 hown8 hgr8 hnil8))
          case d1 => exact one_news (by go_simp)
          case d2 => exact flatI_one [q]
          case d3 => unfold maxLen; omega
          case d4 => omega
          case d5 => simp; omega
          have D8 := (D7.out.next (new_below _ (.cells #[.int .i64 q] 2))).appI hgr8 hown8
          go_roundw
          case rel => exact ⟨j, _, _, by go_num, by simp; omega, HD2, D8⟩
          case measure => first | (simp [intOf]; done) | (simp [intOf]; omega)
end Go.Proofs.Ytdgefdjgpneanad
