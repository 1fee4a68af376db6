/- Lemmas on the way, of several texts: Draw6b, Draw6c. -/
import Derived.Test.YtmophpbfaonfmacDraw6
import Derived.Deep.DeepCutAuto
namespace Go.Proofs.Ytmophpbfaonfmac
open Go.ChangeShapes Go.WideShapes Go.ChangeAt Go.RowKit
set_option maxRecDepth 100000
set_option linter.unusedVariables false
set_option linter.unusedSimpArgs false

theorem own_some {w : World} {base : Nat} {e : TypeId} {s n : Nat} {v : Value} {xs : List Value} (h : w.ownsRow base e s v n xs) (hn : 1 ≤ n) : ∃ g cap, v = .slice (some ⟨g, 0, none⟩) n cap ∧ base ≤ g ∧ g < w.heap.size := by
  rcases h.2 with ⟨rfl, h0⟩ | ⟨g, cap, cur, rfl, hb, _⟩
  · omega
  · exact ⟨g, cap, rfl, hb, (h.lt g rfl).2⟩
/-- Both rows of the draw. -/
structure T2St (B : Nat) (a0 : Option Addr) (len cap b : Nat) (w wr : World) (v : Value) (T : List Q4) (u : Value) (S : List Int) : Prop where
  st : TSt B a0 len cap b w wr v T
  sp : wr.ownsRow w.heap.size 2 1 u S.length (flatI S)
section
variable {B : Nat} {a0 : Option Addr} {len cap b : Nat} {w wr : World} {v u : Value} {T : List Q4} {S : List Int}
theorem T2St.draw (d : T2St B a0 len cap b w wr v T u S) {w2 : World} (o : Only b wr w2) (k : Cur B a0 len cap b w2) : T2St B a0 len cap b w w2 v T u S := ⟨d.st.draw o k, row_only d.sp o d.st.lt⟩
theorem T2St.next (d : T2St B a0 len cap b w wr v T u S) {w2 : World} (h : Below wr.heap.size wr w2) : T2St B a0 len cap b w w2 v T u S := ⟨d.st.next h, row_next d.sp h⟩
theorem T2St.cells {g c : Nat} (d : T2St B a0 len cap b w wr v T (.slice (some ⟨g, 0, none⟩) S.length c) S) {p : Nat} (hp : p < S.length) : wr.cell? ⟨g, p, none⟩ = some (.int .i64 S[p]) ∧ wr.frozen? ⟨g, p, none⟩ = false :=
  ⟨(d.sp.cellAt p (by omega)).trans (flatI_at hp), d.sp.frozenAt p⟩
theorem T2St.ceil {g c : Nat} (d : T2St B a0 len cap b w wr (.slice (some ⟨g, 0, none⟩) T.length c) T u S) {p : Nat} (hp : p < T.length) : wr.cell? ⟨g, p * 4 + 2, none⟩ = some (.int .i64 T[p].2.2.1) :=
  (d.st.own.cellAt _ (by omega)).trans (flatQ_get T p hp).2.2.1
theorem T2St.put {g c : Nat} (d : T2St B a0 len cap b w wr v T (.slice (some ⟨g, 0, none⟩) S.length c) S) (hg : w.heap.size ≤ g) (p : Nat) (x : Int) : T2St B a0 len cap b w (wr.setCell ⟨g, p, none⟩ (.int .i64 x)) v T (.slice (some ⟨g, 0, none⟩) (S.set p x).length c) (S.set p x) := by
  have h := d.sp.stored p (.int .i64 x)
  have hs : (wr.setCell ⟨g, p, none⟩ (.int .i64 x)).ownsRow w.heap.size 2 1 (.slice (some ⟨g, 0, none⟩) (S.set p x).length c) (S.set p x).length (flatI (S.set p x)) := by
    rw [List.length_set, ← flatI_set]
    exact h.1
  refine ⟨d.st.list ((Below.refl _ _).setCell (p := ⟨g, p, none⟩) hg _) (d.st.own.kept h.2 ?_), hs⟩
  exact rows_keep d.st.own d.sp (by decide)
theorem T2St.app (d : T2St B a0 len cap b w wr v T u S) {w' : World} {v' : Value} {x : Q4} (hg : wr.grownBy w' v.ownBlock) (ho : w'.ownsRow w.heap.size 61 4 v' (T.length + 1) (flatQ T ++ flatQ [x])) : T2St B a0 len cap b w w' v' (T ++ [x]) u S :=
  ⟨d.st.list (d.st.below hg (fun g e => (d.st.own.lt g e).1)) (by rw [flatQ_append, List.length_append]; exact ho), d.sp.kept hg (rows_keep d.sp d.st.own (by decide))⟩
theorem T2St.appI (d : T2St B a0 len cap b w wr v T u S) {w' : World} {u' : Value} {x : Int} (hg : wr.grownBy w' u.ownBlock) (ho : w'.ownsRow w.heap.size 2 1 u' (S.length + 1) (flatI S ++ flatI [x])) : T2St B a0 len cap b w w' v T u' (S ++ [x]) :=
  ⟨d.st.list (d.st.below hg (fun g e => (d.sp.lt g e).1)) (d.st.own.kept hg (rows_keep d.st.own d.sp (by decide))), by rw [flatI_append, List.length_append]; exact ho⟩
end
set_option maxHeartbeats 8000000 in
theorem l6Draw_acc {B : Nat} {a0 : Option Addr} {len cap b : Nat} {w : World} (k : Cur B a0 len cap b w) :
    Calls Try.prog 138 #[.pointer (some ⟨b, 0, none⟩)] w (fun e w' => ∃ a n c T, e = .returned (.slice a n c) ∧ TSt B a0 len cap b w w' (.slice a n c) T ∧ (1 ≤ T.length ∧ T.length ≤ 8)) := by
  obtain ⟨i0, hi, hz0, hz1, hz2⟩ := info_parts info_class
  obtain ⟨j0, hj, jz0, jz1, jz2⟩ := info_parts info_i64
  have hlt := k.hi
  go_enter Try.func138, Try.ntmps138
  go_upto_region 2 with (first
    | (go_at_call 68; have g1 := x1q; refine (below_acc _ k1 o1 (by omega) (by omega)).mono ?_; rintro e w2 ⟨x2, rfl, hx2, k2, o2⟩)
    | (go_at_call 68; refine (below_acc _ k (Only.refl _ _) (by omega) (by omega)).mono ?_; rintro e w1 ⟨x1, rfl, hx1, k1, o1⟩; have x1q := hx1))
  obtain ⟨R, hR⟩ : ∃ R, 100000 + x1 = R := ⟨_, rfl⟩
  obtain ⟨U, hU⟩ : ∃ U, 1500 + x2 = U := ⟨_, rfl⟩
  rw [hR, hU]
  have hR0 : 100000 ≤ R := by omega
  have hR1 : R ≤ 1100000 := by omega
  clear hR hU hx1 hx2 x1q
  have zw := o2.size
  have D : Hid (TSt B a0 len cap b w (w2.alloc (.cells #[.int .i64 (-1), .int .i64 R, .int .i64 0, .int .i64 U] 61)) (.slice (some ⟨w2.heap.size, 0, none⟩) 1 1) [(-1, R, 0, U)]) :=
    ⟨k2.alloc _, o2.alloc _, hlt, own_fresh w2 w.heap.size zw _ _ _ _⟩
  clear k1 o1 k2 o2
  obtain ⟨v2, hv2⟩ : ∃ v2, w2.alloc (.cells #[.int .i64 (-1), .int .i64 R, .int .i64 0, .int .i64 U] 61) = v2 := ⟨_, rfl⟩
  rw [hv2] at D ⊢
  have zv : w2.heap.size < v2.heap.size := by rw [← hv2]; simp
  obtain ⟨g, hg⟩ : ∃ g, w2.heap.size = g := ⟨_, rfl⟩
  rw [hg] at D zv zw ⊢
  clear hg hv2
  have cR : v2.cell? ⟨g, 1, none⟩ = some (.int .i64 R) := D.out.own.cellAt 1 (by decide)
  go_cut [] from 16 to 25 (fun wd => ∃ y, (0 ≤ y ∧ y < 500000) ∧ TSt B a0 len cap b w wd (.slice (some ⟨g, 0, none⟩) 1 1) [(-1, R, R + y, U)])
  case first =>
    go_region_held3 (fun w' => w'.cell? ⟨g, 1, none⟩ = some (.int .i64 R)) (first | assumption | (simp only [World.cell?_drew]; assumption) | (exact (set_other (by decide)).trans (by assumption)) | go_keep)
      (first
        | (go_at_call 68; refine (below_acc 500000 (D.out.next (by go_grown)).cur (Only.refl _ _) (by omega) (by omega)).mono ?_; rintro e vB ⟨y, rfl, hy, kB, oB⟩; have DB : Hid (TSt B a0 len cap b w vB (.slice (some ⟨g, 0, none⟩) 1 1) [(-1, R, 0, U)]) := (D.out.next (by go_grown)).draw oB kB; have j0' : vB.cell? ⟨g, 1, none⟩ = some (.int .i64 R) := DB.out.own.cellAt 1 (by decide); have j2' : vB.cell? ⟨g, 2, none⟩ = some (.int .i64 0) := DB.out.own.cellAt 2 (by decide); have jF : vB.frozen? ⟨g, 2, none⟩ = false := DB.out.own.frozenAt 2; have e1 : IntKind.i64.wrap (R + y) = R + y := (by rw [IntKind.wrap_i64]; omega)))
    all_goals (repeat go_step)
    all_goals go_meet
    all_goals exact ⟨y, hy, DB.out.list ((Below.refl _ _).setCell (p := ⟨g, 2, none⟩) zw _) (DB.out.own.stored 2 _).1⟩
  case rest =>
    clear D cR
    obtain ⟨y, hy, d⟩ := hcut
    have D : Hid (TSt B a0 len cap b w wc (.slice (some ⟨g, 0, none⟩) 1 1) [(-1, R, R + y, U)]) := d
    have cR : wc.cell? ⟨g, 1, none⟩ = some (.int .i64 R) := d.own.cellAt 1 (by decide)
    have zc := d.only.size
    clear d
    go_upto_region 4 with (fail)
    have D2 : Hid (T2St B a0 len cap b w (wc.alloc (.cells #[.int .i64 R] 2)) (.slice (some ⟨g, 0, none⟩) 1 1) [(-1, R, R + y, U)] (.slice (some ⟨wc.heap.size, 0, none⟩) 1 1) [R]) :=
      ⟨D.out.next (new_below _ _), own_freshI wc w.heap.size zc R⟩
    have HD : Hid (DOk [(-1, R, R + y, U)] [R]) := DOk.one (by omega) (by omega) (by omega)
    clear D
    go_wp2_with (first
      | (go_at_call 68; refine (below_acc _ D2.out.st.cur (Only.refl _ _) (by omega) (by omega)).mono ?_; rintro e w4 ⟨x4, rfl, hx4, k4, o4⟩; have D3 : Hid (T2St B a0 len cap b w w4 (.slice (some ⟨g, 0, none⟩) 1 1) [(-1, R, R + y, U)] (.slice (some ⟨wc.heap.size, 0, none⟩) 1 1) [R]) := D2.out.draw o4 k4))
    go_loopw [3, 4, 5] (fun vo vs s wr => ∃ (j : Nat) (T : List Q4) (S : List Int), s = .int .i64 j ∧ T.length + j ≤ 8 ∧ Hid (DOk T S) ∧ Hid (T2St B a0 len cap b w wr vo T vs S)) (fun _ _ s _ => (intOf s).toNat)
    case atStart => exact ⟨x4.toNat, _, _, by rw [Int.toNat_of_nonneg hx4.1], by simp; omega, HD, D3⟩
    case round =>
      clear D2 D3 HD cR hy hx4 k4 o4
      obtain ⟨j, T, S, rfl, hjl, HD, D⟩ := hrel
      have hT1 := HD.out.2.1
      obtain ⟨go, co, rfl, hgo, hgo'⟩ := own_some D.out.st.own hT1
      have hS1 : 1 ≤ S.length := by rw [HD.out.1]; exact hT1
      obtain ⟨gs, cs, rfl, hgs, hgs'⟩ := own_some D.out.sp hS1
      cases j with
      | zero =>
        go_wp2
        go_ret
        exact ⟨_, _, _, T, rfl, D.out.st, hT1, by omega⟩
      | succ j =>
        have hj0 : (0 : Int) < (j : Int) + 1 := by omega
        have hT1' : (1 : Int) ≤ (T.length : Int) := by omega
        have hTn : (T.length : Int) ≤ 8 := by omega
        go_upto_region 8 with (first
          | (go_at_call 68; refine (below_acc _ D.out.st.cur (Only.refl _ _) (by omega) (by omega)).mono ?_; rintro e v1 ⟨xp, rfl, hxp, k1, o1⟩; have D1 : Hid (T2St B a0 len cap b w v1 (.slice (some ⟨go, 0, none⟩) T.length co) T (.slice (some ⟨gs, 0, none⟩) S.length cs) S) := D.out.draw o1 k1))
        obtain ⟨p, rfl⟩ := Int.eq_ofNat_of_zero_le hxp.1
        have hp : p < T.length := by omega
        have hp' : p < S.length := by rw [HD.out.1]; exact hp
        have hpS : (p : Int) < (S.length : Int) := by omega
        have hpT : (p : Int) < (T.length : Int) := by omega
        have hnum := HD.out.2.2 p hp hp'
        obtain ⟨s, hs⟩ : ∃ s, S[p] = s := ⟨_, rfl⟩
        obtain ⟨c, hc⟩ : ∃ c, T[p].2.2.1 = c := ⟨_, rfl⟩
        have HS : Hid (S[p] = s) := hs
        have HC : Hid (T[p].2.2.1 = c) := hc
        rw [hs, hc] at hnum
        clear hs hc
        have n0 := hnum.1
        have n1 := hnum.2.1
        have n2 := hnum.2.2
        clear hnum hxp
        have c1 := (D1.out.cells hp').1
        rw [HS.out] at c1
        go_upto_region 9 with (first
          | (go_at_call 68; refine (below_acc _ D1.out.st.cur (Only.refl _ _) (by omega) (by omega)).mono ?_; rintro e v2 ⟨r, rfl, hr, k2, o2⟩; have D2 : Hid (T2St B a0 len cap b w v2 (.slice (some ⟨go, 0, none⟩) T.length co) T (.slice (some ⟨gs, 0, none⟩) S.length cs) S) := D1.out.draw o2 k2))
        go_upto_if 49 with (first
          | (go_at_call 69; refine (once_acc _ D2.out.st.cur (Only.refl _ _) (by omega) (by omega)).mono ?_; rintro e v3 ⟨f, rfl, k3, o3⟩; have D3 : Hid (T2St B a0 len cap b w v3 (.slice (some ⟨go, 0, none⟩) T.length co) T (.slice (some ⟨gs, 0, none⟩) S.length cs) S) := D2.out.draw o3 k3))
        have c3 := (D3.out.cells hp').1
        rw [HS.out] at c3
        go_cut [7] from 50 to 54 (fun q wd => wd = v3 ∧ ∃ r : Int, q = .int .i64 r ∧ 0 ≤ r ∧ r ≤ s)
        case first =>
          cases f
          · go_wp2
            go_meet
            exact ⟨rfl, r, rfl, hr.1, by omega⟩
          · go_wp2
            go_meet
            exact ⟨rfl, s / 2, rfl, by omega, by omega⟩
        case rest =>
          obtain ⟨hwv, q, rfl, q0, q1⟩ := hcut
          subst hwv
          clear D D1 D2 hr c1 k1 o1 k2 o2 k3 o3
          have cF := (D3.out.cells hp').2
          go_upto_region 12 with (fail)
          have D4 : Hid (T2St B a0 len cap b w (wc.setCell ⟨gs, p, none⟩ (.int .i64 (s - q))) (.slice (some ⟨go, 0, none⟩) T.length co) T (.slice (some ⟨gs, 0, none⟩) S.length cs) (S.set p (s - q))) := by
            have h := D3.out.put hgs p (s - q)
            rw [List.length_set] at h
            exact h
          obtain ⟨v4, hv4⟩ : ∃ v4, wc.setCell ⟨gs, p, none⟩ (.int .i64 (s - q)) = v4 := ⟨_, rfl⟩
          rw [hv4] at D4 ⊢
          clear hv4 D3 c3 cF
          have c4 := D4.out.ceil hp
          rw [HC.out] at c4
          go_upto_region 13 with (first
            | (go_at_call 68; have g1 := m5; refine (below_acc _ D5.out.st.cur (Only.refl _ _) (by omega) (by omega)).mono ?_; rintro e v6 ⟨z, rfl, hz, k6, o6⟩; have D6 : Hid (T2St B a0 len cap b w v6 (.slice (some ⟨go, 0, none⟩) T.length co) T (.slice (some ⟨gs, 0, none⟩) S.length cs) (S.set p (s - q))) := D5.out.draw o6 k6)
            | (go_at_call 68; refine (below_acc _ D4.out.st.cur (Only.refl _ _) (by omega) (by omega)).mono ?_; rintro e v5 ⟨x, rfl, hx, k5, o5⟩; have D5 : Hid (T2St B a0 len cap b w v5 (.slice (some ⟨go, 0, none⟩) T.length co) T (.slice (some ⟨gs, 0, none⟩) S.length cs) (S.set p (s - q))) := D4.out.draw o5 k5; have m5 := hx)
            | (at_builtin; refine wpList_append_own _ rfl _ _ 53 rfl w.heap.size 61 i0 _ 4 32 Try.underlying53 hi hz0 hz1 hz2 rfl (by decide) _ _ _ rfl (D6.out.st.own.alloc _) ⟨v6.heap.size, 0, none⟩ 1 1 [.int .i64 (p : Int), .int .i64 q, .int .i64 (q + x), .int .i64 (1500 + z)] rfl rfl ?c1 ?c2 ?c3 ?c4 ?c5 ?c6; rotate_left 5; intro v' w' hown' hgr hnil))
          case c1 => exact four_news (by go_simp) (by go_simp) (by go_simp) (by go_simp)
          case c2 => exact flatQ_cell [((p : Int), q, q + x, 1500 + z)]
          case c3 => unfold maxLen; omega
          case c4 => omega
          case c5 => have := D6.out.st.only.size; simp; omega
          have D7 : Hid (T2St B a0 len cap b w w' v' (T ++ [((p : Int), q, q + x, 1500 + z)]) (.slice (some ⟨gs, 0, none⟩) S.length cs) (S.set p (s - q))) := (D6.out.next (new_below _ _)).app hgr hown'
          obtain ⟨a', c', rfl⟩ := own_slice hown'
          have HD2 : Hid (DOk (T ++ [((p : Int), q, q + x, 1500 + z)]) (S.set p (s - q) ++ [q])) := by
            have h := HD.out.more hp hp' (r := q) (x := x) (z := 1500 + z) q0 (by rw [HS.out]; exact q1) hx.1 (by omega)
            rw [HS.out] at h
            exact h
          have hSl : (S.set p (s - q)).length ≤ 8 := by rw [List.length_set, HD.out.1]; omega
          have hw7 := D7.out.st.only.size
          clear D4 D5 D6 k5 o5 k6 o6 m5 c4 hgr hnil hown'
          go_wp2_with (first
            | (at_builtin; refine wpList_append_own _ rfl _ _ 43 rfl w.heap.size 2 j0 _ 1 8 Try.underlying43 hj jz0 jz1 jz2 rfl (by decide) _ _ _ rfl (D7.out.sp.alloc _) ⟨w'.heap.size, 0, none⟩ 1 1 [.int .i64 q] rfl rfl ?d1 ?d2 ?d3 ?d4 ?d5 ?d6; rotate_left 5; intro u' w8 hown8 hgr8 hnil8))
          case d1 => exact one_news (by go_simp)
          case d2 => exact flatI_one [q]
          case d3 => unfold maxLen; omega
          case d4 => omega
          case d5 => simp; omega
          have D8 := (D7.out.next (new_below _ (.cells #[.int .i64 q] 2))).appI hgr8 hown8
          go_roundw
          case rel => exact ⟨j, _, _, by go_num, by simp; omega, HD2, D8⟩
          case measure => first | (simp [intOf]; done) | (simp [intOf]; omega)
end Go.Proofs.Ytmophpbfaonfmac
namespace Go.Proofs.Ytmophpbfaonfmac
open Go.ChangeShapes Go.WideShapes Go.ChangeAt Go.RowKit
set_option maxRecDepth 100000
set_option linter.unusedVariables false
set_option linter.unusedSimpArgs false

def intsQ (T : List Q4) : List Int := T.flatMap fun x => [x.1, x.2.1, x.2.2.1, x.2.2.2]
theorem flatQ_ints (T : List Q4) : flatQ T = (intsQ T).map fun z => Value.int .i64 z := by
  induction T with
  | nil => rfl
  | cons x T ih =>
    show Value.int .i64 x.1 :: Value.int .i64 x.2.1 :: Value.int .i64 x.2.2.1 :: Value.int .i64 x.2.2.2 :: flatQ T = Value.int .i64 x.1 :: Value.int .i64 x.2.1 :: Value.int .i64 x.2.2.1 :: Value.int .i64 x.2.2.2 :: (intsQ T).map fun z => Value.int .i64 z
    rw [ih]
theorem ints_any : ∀ (n : Nat) (L : List Int), L.length = n * 4 → ∃ T : List Q4, T.length = n ∧ intsQ T = L
  | 0, L, h => ⟨[], rfl, (List.eq_nil_of_length_eq_zero (by omega)).symm⟩
  | n + 1, a :: b :: c :: d :: L, h => by
    obtain ⟨T, hT, e⟩ := ints_any n L (by simp at h; omega)
    exact ⟨(a, b, c, d) :: T, by simp [hT], by show a :: b :: c :: d :: intsQ T = _; rw [e]⟩
  | n + 1, [], h => by simp at h
  | n + 1, [_], h => by simp at h; omega
  | n + 1, [_, _], h => by simp at h; omega
  | n + 1, [_, _, _], h => by simp at h; omega
/-- One number of a row of classes is another one. -/
theorem own_put {w : World} {base g c : Nat} {t : TypeId} {T : List Q4} (h : w.ownsRow base t 4 (.slice (some ⟨g, 0, none⟩) T.length c) T.length (flatQ T)) (j : Nat) (z : Int) :
    ∃ T' : List Q4, T'.length = T.length ∧ (w.setCell ⟨g, j, none⟩ (.int .i64 z)).ownsRow base t 4 (.slice (some ⟨g, 0, none⟩) T.length c) T'.length (flatQ T') := by
  have hs := (h.stored j (.int .i64 z)).1
  have hl : ((intsQ T).set j z).length = T.length * 4 := by
    have h1 := flatQ_length T
    rw [flatQ_ints, List.length_map] at h1
    rw [List.length_set, h1]
  obtain ⟨T', e1, e2⟩ := ints_any T.length _ hl
  refine ⟨T', e1, ?_⟩
  rw [e1, flatQ_ints T', e2, List.map_set, ← flatQ_ints]
  exact hs
theorem TSt.put {B : Nat} {a0 : Option Addr} {len cap b : Nat} {w wr : World} {T : List Q4} {g c : Nat} (d : TSt B a0 len cap b w wr (.slice (some ⟨g, 0, none⟩) T.length c) T) (hg : w.heap.size ≤ g) (j : Nat) (z : Int) :
    ∃ T' : List Q4, T'.length = T.length ∧ TSt B a0 len cap b w (wr.setCell ⟨g, j, none⟩ (.int .i64 z)) (.slice (some ⟨g, 0, none⟩) T.length c) T' := by
  obtain ⟨T', e, h⟩ := own_put d.own j z
  exact ⟨T', e, d.list ((Below.refl _ _).setCell (p := ⟨g, j, none⟩) hg _) h⟩
theorem TSt.cellsQ {B : Nat} {a0 : Option Addr} {len cap b : Nat} {w wr : World} {T : List Q4} {g c : Nat} (d : TSt B a0 len cap b w wr (.slice (some ⟨g, 0, none⟩) T.length c) T) {k : Nat} (hk : k < T.length) :
    (wr.cell? ⟨g, k * 4, none⟩ = some (.int .i64 T[k].1) ∧ wr.cell? ⟨g, k * 4 + 1, none⟩ = some (.int .i64 T[k].2.1) ∧ wr.cell? ⟨g, k * 4 + 2, none⟩ = some (.int .i64 T[k].2.2.1) ∧ wr.cell? ⟨g, k * 4 + 3, none⟩ = some (.int .i64 T[k].2.2.2)) ∧ ∀ j, wr.frozen? ⟨g, j, none⟩ = false := by
  obtain ⟨h0, h1, h2, h3⟩ := flatQ_get T k hk
  exact ⟨⟨(d.own.cellAt _ (by omega)).trans h0, (d.own.cellAt _ (by omega)).trans h1, (d.own.cellAt _ (by omega)).trans h2, (d.own.cellAt _ (by omega)).trans h3⟩, fun j => d.own.frozenAt j⟩
theorem tab4_in (a b c d : Int) (X : Nat) (h : X < 4) : ∃ y : Int, (#[Value.int IntKind.i64 a, Value.int IntKind.i64 b, Value.int IntKind.i64 c, Value.int IntKind.i64 d] : Array Value)[X]? = some (.int .i64 y) := by
  match X, h with
  | 0, _ => exact ⟨_, rfl⟩
  | 1, _ => exact ⟨_, rfl⟩
  | 2, _ => exact ⟨_, rfl⟩
  | 3, _ => exact ⟨_, rfl⟩
/-- A draw's way on: some list of classes. -/
def A6 (B : Nat) (a0 : Option Addr) (len cap b : Nat) (w : World) (vo : Value) (wd : World) : Prop := ∃ a n c T, vo = .slice a n c ∧ TSt B a0 len cap b w wd (.slice a n c) T ∧ T.length ≤ 31
theorem a6_put {B : Nat} {a0 : Option Addr} {len cap b : Nat} {w wr : World} {T : List Q4} {g c : Nat} (d : TSt B a0 len cap b w wr (.slice (some ⟨g, 0, none⟩) T.length c) T) (hg : w.heap.size ≤ g) (hl : T.length ≤ 31) (j : Nat) (z : Int) :
    A6 B a0 len cap b w (.slice (some ⟨g, 0, none⟩) T.length c) (wr.setCell ⟨g, j, none⟩ (.int .i64 z)) := by
  obtain ⟨T', e, d'⟩ := d.put hg j z
  exact ⟨_, _, _, T', rfl, d', by omega⟩
theorem own_noneC (w : World) (b : Nat) (hb : b ≤ w.heap.size) : (w.alloc (.cells #[] 61)).ownsRow b 61 4 (.slice (some ⟨w.heap.size, 0, none⟩) 0 0) 0 [] :=
  ⟨rfl, .inr ⟨w.heap.size, 0, #[], rfl, hb, heap_alloc_new _ _, Nat.le_refl _, by unfold maxLen; omega, rfl, rfl⟩⟩
set_option maxHeartbeats 16000000 in
theorem l6DrawAny_acc {B : Nat} {a0 : Option Addr} {len cap b : Nat} {w : World} (k : Cur B a0 len cap b w) :
    Calls Try.prog 118 #[.pointer (some ⟨b, 0, none⟩)] w (T6Post B a0 len cap b w) := by
  obtain ⟨i0, hi, hz0, hz1, hz2⟩ := info_parts info_class
  have hlt := k.hi
  go_enter Try.func118, Try.ntmps118
  go_upto_if 9 with (first
    | (go_at_call 138; refine (l6Draw_acc k).mono ?_; rintro e v1 ⟨a1, n1, c, T, rfl, d1, hT0, hT1⟩; have D0 : Hid (TSt B a0 len cap b w v1 (.slice a1 n1 c) T) := d1; clear d1)
    | (go_at_call 69; refine (once_acc _ D0.out.cur (Only.refl _ _) (by omega) (by omega)).mono ?_; rintro e vO ⟨fO, rfl, kO, oO⟩; have D1 : Hid (TSt B a0 len cap b w vO (.slice a1 n1 c) T) := D0.out.draw oO kO))
  obtain ⟨g, c0, ev, hgl, _⟩ := own_some D1.out.own hT0
  injection ev with e1 e2 e3
  subst e1 e2 e3
  clear D0 kO oO
  have hl31 : T.length ≤ 31 := by omega
  have hTi : (1 : Int) ≤ (T.length : Int) := by omega
  have hTj : (T.length : Int) ≤ 8 := by omega
  go_cut [3, 4] from 10 to 70 (fun vo _ wd => A6 B a0 len cap b w vo wd)
  case first =>
    cases fO
    · go_wp2
      go_meet
      exact ⟨_, _, _, T, rfl, D1.out, hl31⟩
    · go_upto_region 4 with (first
        | (go_at_call 68; refine (below_acc _ D1.out.cur (Only.refl _ _) (by omega) (by omega)).mono ?_; rintro e v2 ⟨xk, rfl, hxk, k2, o2⟩; have D2 : Hid (TSt B a0 len cap b w v2 (.slice (some ⟨g, 0, none⟩) T.length c) T) := D1.out.draw o2 k2; obtain ⟨k, rfl⟩ := Int.eq_ofNat_of_zero_le hxk.1; have hk : k < T.length := (by omega); have hki : (k : Int) < (T.length : Int) := (by omega)))
      clear D1 k2 o2
      go_wp2_with (first
        | (go_at_call 68; have g1 := q5; have g2 := D5; refine (below_acc 4 D5.out.cur (Only.refl _ _) (by omega) (by omega)).mono ?_; rintro e vT ⟨x4, rfl, hx4, kT, oT⟩; have DZ : Hid (TSt B a0 len cap b w vT (.slice (some ⟨g, 0, none⟩) T.length c) T) := D5.out.draw oT kT; obtain ⟨X, rfl⟩ := Int.eq_ofNat_of_zero_le hx4.1; have hX : X < 4 := (by omega); have hXi : (X : Int) < 4 := (by omega); obtain ⟨yy, hy⟩ := tab4_in 1499 1500 1000000000 1000000001 X hX; have hcell : vT.cell? ⟨v2.heap.size, X, none⟩ = some (.int .i64 yy) := (table_cell (w := v2) D.out.cur.hi oT X).trans hy; have zF := (DZ.out.cellsQ hk).2; have zC := (DZ.out.cellsQ hk).1.2.2.2)
        | (go_at_call 68; refine (below_acc _ D2.out.cur (Only.refl _ _) (by omega) (by omega)).mono ?_; rintro e v2 ⟨x5, rfl, hx5, k5, o5⟩; have D : Hid (TSt B a0 len cap b w v2 (.slice (some ⟨g, 0, none⟩) T.length c) T) := D2.out.draw o5 k5; have q5 := hx5; have D5 : Hid (TSt B a0 len cap b w (v2.alloc (.cells #[.int .i64 1499, .int .i64 1500, .int .i64 1000000000, .int .i64 1000000001] 2)) (.slice (some ⟨g, 0, none⟩) T.length c) T) := D.out.next (new_below _ _); have hcs := (D.out.cellsQ hk).1; obtain ⟨cc, hcc⟩ : ∃ cc, T[k].2.2.1 = cc := ⟨_, rfl⟩; obtain ⟨rr, hrr⟩ : ∃ rr, T[k].2.1 = rr := ⟨_, rfl⟩; have HC : Hid (T[k].2.2.1 = cc) := hcc; have HR : Hid (T[k].2.1 = rr) := hrr; rw [hcc, hrr] at hcs; have cc2 := hcs.2.2.1; have cc1 := hcs.2.1; clear hcs hcc hrr; rcases (show x5 = 0 ∨ x5 = 1 ∨ x5 = 2 ∨ x5 = 3 ∨ x5 = 4 from (by omega)) with rfl | rfl | rfl | rfl | rfl)
        | (go_at_call 139; refine (from_acc _ _ D.out.cur (Only.refl _ _) (by omega) (by omega) (by omega)).mono ?_; rintro e vT ⟨yy, rfl, hyy, kT, oT⟩; have DZ : Hid (TSt B a0 len cap b w vT (.slice (some ⟨g, 0, none⟩) T.length c) T) := D.out.draw oT kT; have zF := (DZ.out.cellsQ hk).2; have zC := (DZ.out.cellsQ hk).1.1))
      · go_meet
        exact a6_put DZ.out hgl hl31 _ _
      · skip
        refine region_late (S := fun w' => w'.cell? ⟨g, k * 4 + 2, none⟩ = some (.int .i64 cc)) 17 (by kernel_rfl) (by go_simp) (fun hS => ?_)
        refine late_take (i := 0) (v := ?_) rfl (by kernel_rfl) (by kernel_rfl) (by kernel_rfl) (by kernel_rfl) (fun _ _ _ h => h) (Or.inl ⟨by rfl, ?_⟩) (by assumption) ?_
        rotate_left 1
        · (intro w' hSw; (try dsimp only at hSw); go_simp; try with_reducible rfl)
        try simp only [Act.put, List.setIfInBounds_toArray, List.set_cons_zero, List.set_cons_succ, List.getElem_toArray, List.getElem_cons_succ, List.getElem_cons_zero]
        refine late_take (i := 1) (v := ?_) rfl (by kernel_rfl) (by kernel_rfl) (by kernel_rfl) (by kernel_rfl) (fun _ _ _ h => h) (Or.inl ⟨by rfl, ?_⟩) (by assumption) ?_
        rotate_left 1
        · (intro w' hSw; (try dsimp only at hSw); go_simp; try with_reducible rfl)
        try simp only [Act.put, List.setIfInBounds_toArray, List.set_cons_zero, List.set_cons_succ, List.getElem_toArray, List.getElem_cons_succ, List.getElem_cons_zero]
        refine late_take (i := 2) (v := ?_) rfl (by kernel_rfl) (by kernel_rfl) (by kernel_rfl) (by kernel_rfl) (fun _ _ _ h => h) (Or.inl ⟨by rfl, ?_⟩) (by assumption) ?_
        rotate_left 1
        · (intro w' hSw; (try dsimp only at hSw); go_simp; try with_reducible rfl)
        try simp only [Act.put, List.setIfInBounds_toArray, List.set_cons_zero, List.set_cons_succ, List.getElem_toArray, List.getElem_cons_succ, List.getElem_cons_zero]
        refine late_take (i := 3) (v := ?_) rfl (by kernel_rfl) (by kernel_rfl) (by kernel_rfl) (by kernel_rfl) (fun _ _ _ h => h) (Or.inl ⟨by rfl, ?_⟩) (by assumption) ?_
        rotate_left 1
        · (intro w' hSw; (try dsimp only at hSw); go_simp; try with_reducible rfl)
        try simp only [Act.put, List.setIfInBounds_toArray, List.set_cons_zero, List.set_cons_succ, List.getElem_toArray, List.getElem_cons_succ, List.getElem_cons_zero]
        refine late_take (i := 4) (v := ?_) rfl (by kernel_rfl) (by kernel_rfl) (by kernel_rfl) (by kernel_rfl) (fun _ _ _ h => h) (Or.inl ⟨by rfl, ?_⟩) (by assumption) ?_
        rotate_left 1
        · (intro w' hSw; (try dsimp only at hSw); go_simp; try with_reducible rfl)
        try simp only [Act.put, List.setIfInBounds_toArray, List.set_cons_zero, List.set_cons_succ, List.getElem_toArray, List.getElem_cons_succ, List.getElem_cons_zero]
        refine late_take (i := 5) (v := ?_) rfl (by kernel_rfl) (by kernel_rfl) (by kernel_rfl) (by kernel_rfl) (fun _ _ _ h => h) (Or.inl ⟨by rfl, ?_⟩) (by assumption) ?_
        rotate_left 1
        · (intro w' hSw; (try dsimp only at hSw); go_simp; try with_reducible rfl)
        try simp only [Act.put, List.setIfInBounds_toArray, List.set_cons_zero, List.set_cons_succ, List.getElem_toArray, List.getElem_cons_succ, List.getElem_cons_zero]
        refine late_take (i := 6) (v := ?_) rfl (by kernel_rfl) (by kernel_rfl) (by kernel_rfl) (by kernel_rfl) (fun _ _ _ h => h) (Or.inl ⟨by rfl, ?_⟩) (by assumption) ?_
        rotate_left 1
        · (intro w' hSw; (try dsimp only at hSw); go_simp; try with_reducible rfl)
        try simp only [Act.put, List.setIfInBounds_toArray, List.set_cons_zero, List.set_cons_succ, List.getElem_toArray, List.getElem_cons_succ, List.getElem_cons_zero]
        refine late_take (i := 7) (v := ?_) rfl (by kernel_rfl) (by kernel_rfl) (by kernel_rfl) (by kernel_rfl) (fun _ _ _ h => h) (Or.inl ⟨by rfl, ?_⟩) (by assumption) ?_
        rotate_left 1
        · (intro w' hSw; (try dsimp only at hSw); go_simp; try with_reducible rfl)
        try simp only [Act.put, List.setIfInBounds_toArray, List.set_cons_zero, List.set_cons_succ, List.getElem_toArray, List.getElem_cons_succ, List.getElem_cons_zero]
        refine late_take (i := 8) (v := ?_) rfl (by kernel_rfl) (by kernel_rfl) (by kernel_rfl) (by kernel_rfl) (fun _ _ _ h => h) (Or.inl ⟨by rfl, ?_⟩) (by assumption) ?_
        rotate_left 1
        · (intro w' hSw; (try dsimp only at hSw); go_simp; try with_reducible rfl)
        try simp only [Act.put, List.setIfInBounds_toArray, List.set_cons_zero, List.set_cons_succ, List.getElem_toArray, List.getElem_cons_succ, List.getElem_cons_zero]
        refine late_take (i := 9) (v := ?_) rfl (by kernel_rfl) (by kernel_rfl) (by kernel_rfl) (by kernel_rfl) (fun _ _ _ h => h) (Or.inl ⟨by rfl, ?_⟩) (by assumption) ?_
        rotate_left 1
        · (intro w' hSw; (try dsimp only at hSw); go_simp; try with_reducible rfl)
        try simp only [Act.put, List.setIfInBounds_toArray, List.set_cons_zero, List.set_cons_succ, List.getElem_toArray, List.getElem_cons_succ, List.getElem_cons_zero]
        refine late_take (i := 11) (v := ?_) rfl (by kernel_rfl) (by kernel_rfl) (by kernel_rfl) (by kernel_rfl) (fun _ _ _ h => h) (Or.inl ⟨by rfl, ?_⟩) (by assumption) ?_
        rotate_left 1
        · (intro w' hSw; (try dsimp only at hSw); go_simp; try with_reducible rfl)
        try simp only [Act.put, List.setIfInBounds_toArray, List.set_cons_zero, List.set_cons_succ, List.getElem_toArray, List.getElem_cons_succ, List.getElem_cons_zero]
        refine late_two (i := 10) (j := 12) (by kernel_rfl) rfl rfl (fun K hK => ?_) (fun K hK => ?_)
        · go_simp
          have DA : Hid (TSt B a0 len cap b w (v2.drew.alloc (.cells #[.int .i64 (-1), .int .i64 cc, .int .i64 (IntKind.i64.wrap (cc + 1)), .int .i64 1000000000001] 2)) (.slice (some ⟨g, 0, none⟩) T.length c) T) := D.out.next ((Below.refl _ _).drew.alloc (Nat.le_refl _) _)
          refine hK.out _ _ ((by have h := (DA.out.cellsQ hk).1.2.2.1; rw [HC.out] at h; exact h)) (fun hS => ?_)
          try simp only [Act.put, List.setIfInBounds_toArray, List.set_cons_zero, List.set_cons_succ, List.getElem_toArray, List.getElem_cons_succ, List.getElem_cons_zero]
          refine late_one (i := 12) (by kernel_rfl) rfl (fun K hK => ?_)
          go_simp
          (refine (below_acc 4 DA.out.cur (Only.refl _ _) (by omega) (by omega)).mono ?_; rintro e vT ⟨x4, rfl, hx4, kT, oT⟩; have DZ : Hid (TSt B a0 len cap b w vT (.slice (some ⟨g, 0, none⟩) T.length c) T) := DA.out.draw oT kT; obtain ⟨X, rfl⟩ := Int.eq_ofNat_of_zero_le hx4.1; have hX : X < 4 := (by omega); have hXi : (X : Int) < 4 := (by omega); obtain ⟨yy, hy⟩ := tab4_in (-1) cc (IntKind.i64.wrap (cc + 1)) 1000000000001 X hX; have hcell : vT.cell? ⟨v2.heap.size, X, none⟩ = some (.int .i64 yy) := (table_cell (w := v2.drew) (D.out.next (Below.refl _ _).drew).cur.hi oT X).trans hy; have hS := (by have h := (DZ.out.cellsQ hk).1.2.2.1; rw [HC.out] at h; exact h); have zF := (DZ.out.cellsQ hk).2; have zC := (DZ.out.cellsQ hk).1.2.1; simp only [])
          refine hK.out _ _ (by assumption) (fun _ => ?_)
          try simp only [Act.put, List.setIfInBounds_toArray, List.set_cons_zero, List.set_cons_succ, List.getElem_toArray, List.getElem_cons_succ, List.getElem_cons_zero]
          refine late_take (i := 13) (v := ?_) rfl (by kernel_rfl) (by kernel_rfl) (by kernel_rfl) (by kernel_rfl) (fun _ _ _ h => h) (Or.inl ⟨by rfl, ?_⟩) (by assumption) ?_
          rotate_left 1
          · (intro w' hSw; (try dsimp only at hSw); go_simp; try with_reducible rfl)
          try simp only [Act.put, List.setIfInBounds_toArray, List.set_cons_zero, List.set_cons_succ, List.getElem_toArray, List.getElem_cons_succ, List.getElem_cons_zero]
          refine late_one (i := 14) (by kernel_rfl) rfl (fun K hK => ?_)
          go_simp
          refine hK.out _ _ (by assumption) (fun _ => ?_)
          try simp only [Act.put, List.setIfInBounds_toArray, List.set_cons_zero, List.set_cons_succ, List.getElem_toArray, List.getElem_cons_succ, List.getElem_cons_zero]
          refine late_one (i := 15) (by kernel_rfl) rfl (fun K hK => ?_)
          go_simp
          refine hK.out _ _ (by assumption) (fun _ => ?_)
          try simp only [Act.put, List.setIfInBounds_toArray, List.set_cons_zero, List.set_cons_succ, List.getElem_toArray, List.getElem_cons_succ, List.getElem_cons_zero]
          refine late_take (i := 16) (v := ?_) rfl (by kernel_rfl) (by kernel_rfl) (by kernel_rfl) (by kernel_rfl) (fun _ _ _ h => h) (Or.inl ⟨by rfl, ?_⟩) (by assumption) ?_
          rotate_left 1
          · (intro w' hSw; (try dsimp only at hSw); go_simp; try with_reducible rfl)
          try simp only [Act.put, List.setIfInBounds_toArray, List.set_cons_zero, List.set_cons_succ, List.getElem_toArray, List.getElem_cons_succ, List.getElem_cons_zero]
          refine late_last (by kernel_rfl) rfl (by kernel_rfl) (fun K hK => ?_)
          go_simp
          refine hK.out _ _ ?_
          try simp only [Act.put, List.setIfInBounds_toArray, List.set_cons_zero, List.set_cons_succ, List.getElem_toArray, List.getElem_cons_succ, List.getElem_cons_zero]
          repeat go_step
          go_meet
          exact a6_put DZ.out hgl hl31 _ _
        · go_simp
          (refine (below_acc 4 (D.out.next (Below.refl _ _).drew).cur (Only.refl _ _) (by omega) (by omega)).mono ?_; rintro e vT ⟨x4, rfl, hx4, kT, oT⟩; have D2 : Hid (TSt B a0 len cap b w vT (.slice (some ⟨g, 0, none⟩) T.length c) T) := (D.out.next (Below.refl _ _).drew).draw oT kT; obtain ⟨X, rfl⟩ := Int.eq_ofNat_of_zero_le hx4.1; have hX : X < 4 := (by omega); have hXi : (X : Int) < 4 := (by omega); obtain ⟨yy, hy⟩ := tab4_in (-1) cc (IntKind.i64.wrap (cc + 1)) 1000000000001 X hX; have hS := (by have h := (D2.out.cellsQ hk).1.2.2.1; rw [HC.out] at h; exact h); simp only [])
          refine hK.out _ _ (by assumption) (fun _ => ?_)
          try simp only [Act.put, List.setIfInBounds_toArray, List.set_cons_zero, List.set_cons_succ, List.getElem_toArray, List.getElem_cons_succ, List.getElem_cons_zero]
          refine late_one (i := 10) (by kernel_rfl) rfl (fun K hK => ?_)
          go_simp
          have DZ : Hid (TSt B a0 len cap b w (vT.alloc (.cells #[.int .i64 (-1), .int .i64 cc, .int .i64 (IntKind.i64.wrap (cc + 1)), .int .i64 1000000000001] 2)) (.slice (some ⟨g, 0, none⟩) T.length c) T) := D2.out.next (new_below _ _)
          have hcell : (vT.alloc (.cells #[.int .i64 (-1), .int .i64 cc, .int .i64 (IntKind.i64.wrap (cc + 1)), .int .i64 1000000000001] 2)).cell? ⟨vT.heap.size, X, none⟩ = some (.int .i64 yy) := (World.cell?_alloc_at _ _ _ _ rfl).trans hy
          have zF := (DZ.out.cellsQ hk).2
          have zC := (DZ.out.cellsQ hk).1.2.1
          refine hK.out _ _ ((by have h := (DZ.out.cellsQ hk).1.2.2.1; rw [HC.out] at h; exact h)) (fun hS => ?_)
          try simp only [Act.put, List.setIfInBounds_toArray, List.set_cons_zero, List.set_cons_succ, List.getElem_toArray, List.getElem_cons_succ, List.getElem_cons_zero]
          refine late_take (i := 13) (v := ?_) rfl (by kernel_rfl) (by kernel_rfl) (by kernel_rfl) (by kernel_rfl) (fun _ _ _ h => h) (Or.inl ⟨by rfl, ?_⟩) (by assumption) ?_
          rotate_left 1
          · (intro w' hSw; (try dsimp only at hSw); go_simp; try with_reducible rfl)
          try simp only [Act.put, List.setIfInBounds_toArray, List.set_cons_zero, List.set_cons_succ, List.getElem_toArray, List.getElem_cons_succ, List.getElem_cons_zero]
          refine late_one (i := 14) (by kernel_rfl) rfl (fun K hK => ?_)
          go_simp
          refine hK.out _ _ (by assumption) (fun _ => ?_)
          try simp only [Act.put, List.setIfInBounds_toArray, List.set_cons_zero, List.set_cons_succ, List.getElem_toArray, List.getElem_cons_succ, List.getElem_cons_zero]
          refine late_one (i := 15) (by kernel_rfl) rfl (fun K hK => ?_)
          go_simp
          refine hK.out _ _ (by assumption) (fun _ => ?_)
          try simp only [Act.put, List.setIfInBounds_toArray, List.set_cons_zero, List.set_cons_succ, List.getElem_toArray, List.getElem_cons_succ, List.getElem_cons_zero]
          refine late_take (i := 16) (v := ?_) rfl (by kernel_rfl) (by kernel_rfl) (by kernel_rfl) (by kernel_rfl) (fun _ _ _ h => h) (Or.inl ⟨by rfl, ?_⟩) (by assumption) ?_
          rotate_left 1
          · (intro w' hSw; (try dsimp only at hSw); go_simp; try with_reducible rfl)
          try simp only [Act.put, List.setIfInBounds_toArray, List.set_cons_zero, List.set_cons_succ, List.getElem_toArray, List.getElem_cons_succ, List.getElem_cons_zero]
          refine late_last (by kernel_rfl) rfl (by kernel_rfl) (fun K hK => ?_)
          go_simp
          refine hK.out _ _ ?_
          try simp only [Act.put, List.setIfInBounds_toArray, List.set_cons_zero, List.set_cons_succ, List.getElem_toArray, List.getElem_cons_succ, List.getElem_cons_zero]
          repeat go_step
          go_meet
          exact a6_put DZ.out hgl hl31 _ _
      · skip
        refine region_late (S := fun w' => w'.cell? ⟨g, k * 4 + 1, none⟩ = some (.int .i64 rr)) 12 (by kernel_rfl) (by go_simp) (fun hS => ?_)
        refine late_take (i := 0) (v := ?_) rfl (by kernel_rfl) (by kernel_rfl) (by kernel_rfl) (by kernel_rfl) (fun _ _ _ h => h) (Or.inl ⟨by rfl, ?_⟩) (by assumption) ?_
        rotate_left 1
        · (intro w' hSw; (try dsimp only at hSw); go_simp; try with_reducible rfl)
        try simp only [Act.put, List.setIfInBounds_toArray, List.set_cons_zero, List.set_cons_succ, List.getElem_toArray, List.getElem_cons_succ, List.getElem_cons_zero]
        refine late_take (i := 1) (v := ?_) rfl (by kernel_rfl) (by kernel_rfl) (by kernel_rfl) (by kernel_rfl) (fun _ _ _ h => h) (Or.inl ⟨by rfl, ?_⟩) (by assumption) ?_
        rotate_left 1
        · (intro w' hSw; (try dsimp only at hSw); go_simp; try with_reducible rfl)
        try simp only [Act.put, List.setIfInBounds_toArray, List.set_cons_zero, List.set_cons_succ, List.getElem_toArray, List.getElem_cons_succ, List.getElem_cons_zero]
        refine late_take (i := 2) (v := ?_) rfl (by kernel_rfl) (by kernel_rfl) (by kernel_rfl) (by kernel_rfl) (fun _ _ _ h => h) (Or.inl ⟨by rfl, ?_⟩) (by assumption) ?_
        rotate_left 1
        · (intro w' hSw; (try dsimp only at hSw); go_simp; try with_reducible rfl)
        try simp only [Act.put, List.setIfInBounds_toArray, List.set_cons_zero, List.set_cons_succ, List.getElem_toArray, List.getElem_cons_succ, List.getElem_cons_zero]
        refine late_take (i := 3) (v := ?_) rfl (by kernel_rfl) (by kernel_rfl) (by kernel_rfl) (by kernel_rfl) (fun _ _ _ h => h) (Or.inl ⟨by rfl, ?_⟩) (by assumption) ?_
        rotate_left 1
        · (intro w' hSw; (try dsimp only at hSw); go_simp; try with_reducible rfl)
        try simp only [Act.put, List.setIfInBounds_toArray, List.set_cons_zero, List.set_cons_succ, List.getElem_toArray, List.getElem_cons_succ, List.getElem_cons_zero]
        refine late_take (i := 4) (v := ?_) rfl (by kernel_rfl) (by kernel_rfl) (by kernel_rfl) (by kernel_rfl) (fun _ _ _ h => h) (Or.inl ⟨by rfl, ?_⟩) (by assumption) ?_
        rotate_left 1
        · (intro w' hSw; (try dsimp only at hSw); go_simp; try with_reducible rfl)
        try simp only [Act.put, List.setIfInBounds_toArray, List.set_cons_zero, List.set_cons_succ, List.getElem_toArray, List.getElem_cons_succ, List.getElem_cons_zero]
        refine late_take (i := 6) (v := ?_) rfl (by kernel_rfl) (by kernel_rfl) (by kernel_rfl) (by kernel_rfl) (fun _ _ _ h => h) (Or.inl ⟨by rfl, ?_⟩) (by assumption) ?_
        rotate_left 1
        · (intro w' hSw; (try dsimp only at hSw); go_simp; try with_reducible rfl)
        try simp only [Act.put, List.setIfInBounds_toArray, List.set_cons_zero, List.set_cons_succ, List.getElem_toArray, List.getElem_cons_succ, List.getElem_cons_zero]
        refine late_two (i := 5) (j := 7) (by kernel_rfl) rfl rfl (fun K hK => ?_) (fun K hK => ?_)
        · go_simp
          have DA : Hid (TSt B a0 len cap b w (v2.drew.alloc (.cells #[.int .i64 (-1), .int .i64 rr, .int .i64 1000000000000, .int .i64 1000000000001] 2)) (.slice (some ⟨g, 0, none⟩) T.length c) T) := D.out.next ((Below.refl _ _).drew.alloc (Nat.le_refl _) _)
          refine hK.out _ _ ((by have h := (DA.out.cellsQ hk).1.2.1; rw [HR.out] at h; exact h)) (fun hS => ?_)
          try simp only [Act.put, List.setIfInBounds_toArray, List.set_cons_zero, List.set_cons_succ, List.getElem_toArray, List.getElem_cons_succ, List.getElem_cons_zero]
          refine late_one (i := 7) (by kernel_rfl) rfl (fun K hK => ?_)
          go_simp
          (refine (below_acc 4 DA.out.cur (Only.refl _ _) (by omega) (by omega)).mono ?_; rintro e vT ⟨x4, rfl, hx4, kT, oT⟩; have DZ : Hid (TSt B a0 len cap b w vT (.slice (some ⟨g, 0, none⟩) T.length c) T) := DA.out.draw oT kT; obtain ⟨X, rfl⟩ := Int.eq_ofNat_of_zero_le hx4.1; have hX : X < 4 := (by omega); have hXi : (X : Int) < 4 := (by omega); obtain ⟨yy, hy⟩ := tab4_in (-1) rr 1000000000000 1000000000001 X hX; have hcell : vT.cell? ⟨v2.heap.size, X, none⟩ = some (.int .i64 yy) := (table_cell (w := v2.drew) (D.out.next (Below.refl _ _).drew).cur.hi oT X).trans hy; have hS := (by have h := (DZ.out.cellsQ hk).1.2.1; rw [HR.out] at h; exact h); have zF := (DZ.out.cellsQ hk).2; have zC := (DZ.out.cellsQ hk).1.2.2.1; simp only [])
          refine hK.out _ _ (by assumption) (fun _ => ?_)
          try simp only [Act.put, List.setIfInBounds_toArray, List.set_cons_zero, List.set_cons_succ, List.getElem_toArray, List.getElem_cons_succ, List.getElem_cons_zero]
          refine late_take (i := 8) (v := ?_) rfl (by kernel_rfl) (by kernel_rfl) (by kernel_rfl) (by kernel_rfl) (fun _ _ _ h => h) (Or.inl ⟨by rfl, ?_⟩) (by assumption) ?_
          rotate_left 1
          · (intro w' hSw; (try dsimp only at hSw); go_simp; try with_reducible rfl)
          try simp only [Act.put, List.setIfInBounds_toArray, List.set_cons_zero, List.set_cons_succ, List.getElem_toArray, List.getElem_cons_succ, List.getElem_cons_zero]
          refine late_one (i := 9) (by kernel_rfl) rfl (fun K hK => ?_)
          go_simp
          refine hK.out _ _ (by assumption) (fun _ => ?_)
          try simp only [Act.put, List.setIfInBounds_toArray, List.set_cons_zero, List.set_cons_succ, List.getElem_toArray, List.getElem_cons_succ, List.getElem_cons_zero]
          refine late_one (i := 10) (by kernel_rfl) rfl (fun K hK => ?_)
          go_simp
          refine hK.out _ _ (by assumption) (fun _ => ?_)
          try simp only [Act.put, List.setIfInBounds_toArray, List.set_cons_zero, List.set_cons_succ, List.getElem_toArray, List.getElem_cons_succ, List.getElem_cons_zero]
          refine late_take (i := 11) (v := ?_) rfl (by kernel_rfl) (by kernel_rfl) (by kernel_rfl) (by kernel_rfl) (fun _ _ _ h => h) (Or.inl ⟨by rfl, ?_⟩) (by assumption) ?_
          rotate_left 1
          · (intro w' hSw; (try dsimp only at hSw); go_simp; try with_reducible rfl)
          try simp only [Act.put, List.setIfInBounds_toArray, List.set_cons_zero, List.set_cons_succ, List.getElem_toArray, List.getElem_cons_succ, List.getElem_cons_zero]
          refine late_last (by kernel_rfl) rfl (by kernel_rfl) (fun K hK => ?_)
          go_simp
          refine hK.out _ _ ?_
          try simp only [Act.put, List.setIfInBounds_toArray, List.set_cons_zero, List.set_cons_succ, List.getElem_toArray, List.getElem_cons_succ, List.getElem_cons_zero]
          repeat go_step
          go_meet
          exact a6_put DZ.out hgl hl31 _ _
        · go_simp
          (refine (below_acc 4 (D.out.next (Below.refl _ _).drew).cur (Only.refl _ _) (by omega) (by omega)).mono ?_; rintro e vT ⟨x4, rfl, hx4, kT, oT⟩; have D2 : Hid (TSt B a0 len cap b w vT (.slice (some ⟨g, 0, none⟩) T.length c) T) := (D.out.next (Below.refl _ _).drew).draw oT kT; obtain ⟨X, rfl⟩ := Int.eq_ofNat_of_zero_le hx4.1; have hX : X < 4 := (by omega); have hXi : (X : Int) < 4 := (by omega); obtain ⟨yy, hy⟩ := tab4_in (-1) rr 1000000000000 1000000000001 X hX; have hS := (by have h := (D2.out.cellsQ hk).1.2.1; rw [HR.out] at h; exact h); simp only [])
          refine hK.out _ _ (by assumption) (fun _ => ?_)
          try simp only [Act.put, List.setIfInBounds_toArray, List.set_cons_zero, List.set_cons_succ, List.getElem_toArray, List.getElem_cons_succ, List.getElem_cons_zero]
          refine late_one (i := 5) (by kernel_rfl) rfl (fun K hK => ?_)
          go_simp
          have DZ : Hid (TSt B a0 len cap b w (vT.alloc (.cells #[.int .i64 (-1), .int .i64 rr, .int .i64 1000000000000, .int .i64 1000000000001] 2)) (.slice (some ⟨g, 0, none⟩) T.length c) T) := D2.out.next (new_below _ _)
          have hcell : (vT.alloc (.cells #[.int .i64 (-1), .int .i64 rr, .int .i64 1000000000000, .int .i64 1000000000001] 2)).cell? ⟨vT.heap.size, X, none⟩ = some (.int .i64 yy) := (World.cell?_alloc_at _ _ _ _ rfl).trans hy
          have zF := (DZ.out.cellsQ hk).2
          have zC := (DZ.out.cellsQ hk).1.2.2.1
          refine hK.out _ _ ((by have h := (DZ.out.cellsQ hk).1.2.1; rw [HR.out] at h; exact h)) (fun hS => ?_)
          try simp only [Act.put, List.setIfInBounds_toArray, List.set_cons_zero, List.set_cons_succ, List.getElem_toArray, List.getElem_cons_succ, List.getElem_cons_zero]
          refine late_take (i := 8) (v := ?_) rfl (by kernel_rfl) (by kernel_rfl) (by kernel_rfl) (by kernel_rfl) (fun _ _ _ h => h) (Or.inl ⟨by rfl, ?_⟩) (by assumption) ?_
          rotate_left 1
          · (intro w' hSw; (try dsimp only at hSw); go_simp; try with_reducible rfl)
          try simp only [Act.put, List.setIfInBounds_toArray, List.set_cons_zero, List.set_cons_succ, List.getElem_toArray, List.getElem_cons_succ, List.getElem_cons_zero]
          refine late_one (i := 9) (by kernel_rfl) rfl (fun K hK => ?_)
          go_simp
          refine hK.out _ _ (by assumption) (fun _ => ?_)
          try simp only [Act.put, List.setIfInBounds_toArray, List.set_cons_zero, List.set_cons_succ, List.getElem_toArray, List.getElem_cons_succ, List.getElem_cons_zero]
          refine late_one (i := 10) (by kernel_rfl) rfl (fun K hK => ?_)
          go_simp
          refine hK.out _ _ (by assumption) (fun _ => ?_)
          try simp only [Act.put, List.setIfInBounds_toArray, List.set_cons_zero, List.set_cons_succ, List.getElem_toArray, List.getElem_cons_succ, List.getElem_cons_zero]
          refine late_take (i := 11) (v := ?_) rfl (by kernel_rfl) (by kernel_rfl) (by kernel_rfl) (by kernel_rfl) (fun _ _ _ h => h) (Or.inl ⟨by rfl, ?_⟩) (by assumption) ?_
          rotate_left 1
          · (intro w' hSw; (try dsimp only at hSw); go_simp; try with_reducible rfl)
          try simp only [Act.put, List.setIfInBounds_toArray, List.set_cons_zero, List.set_cons_succ, List.getElem_toArray, List.getElem_cons_succ, List.getElem_cons_zero]
          refine late_last (by kernel_rfl) rfl (by kernel_rfl) (fun K hK => ?_)
          go_simp
          refine hK.out _ _ ?_
          try simp only [Act.put, List.setIfInBounds_toArray, List.set_cons_zero, List.set_cons_succ, List.getElem_toArray, List.getElem_cons_succ, List.getElem_cons_zero]
          repeat go_step
          go_meet
          exact a6_put DZ.out hgl hl31 _ _
      · go_meet
        exact a6_put DZ.out hgl hl31 _ _
      · go_meet
        exact ⟨_, _, _, [], rfl, (D.out.next (new_below _ _)).list (Below.refl _ _) (own_noneC v2 w.heap.size D.out.only.size), by simp⟩
  case rest =>
    clear D1
    obtain ⟨a, n, c, T, rfl, d, hT⟩ := hcut
    have D : Hid (TSt B a0 len cap b w wc (.slice a n c) T) := d
    clear d
    go_upto_if 72 with (first
      | (go_at_call 69; refine (once_acc _ D.out.cur (Only.refl _ _) (by omega) (by omega)).mono ?_; rintro e v3 ⟨f3, rfl, k3, o3⟩; have D3 : Hid (TSt B a0 len cap b w v3 (.slice a n c) T) := D.out.draw o3 k3))
    clear D
    cases f3
    · go_wp2
      go_ret
      exact ⟨a, n, c, T, rfl, D3.out, hT⟩
    · go_wp2
      go_loopw [3, 5] (fun vo s wr => ∃ (j : Nat) (T : List Q4), s = .int .i64 j ∧ T.length = j ∧ j ≤ 31 ∧ Hid (TSt B a0 len cap b w wr vo T)) (fun _ s _ => 32 - (intOf s).toNat)
      case atStart => exact ⟨0, [], rfl, rfl, by omega, (D3.out.next (new_below _ _)).list (Below.refl _ _) (own_noneC v3 w.heap.size D3.out.only.size)⟩
      case round =>
        clear D3 k3 o3
        obtain ⟨j, T, rfl, hTj, hj, D⟩ := hrel
        subst hTj
        obtain ⟨ao, co, rfl⟩ := own_slice D.out.own
        have zz := D.out.only.size
        go_upto_if 78 with (first
          | (go_at_call 68; refine (below_acc _ D.out.cur (Only.refl _ _) (by omega) (by omega)).mono ?_; rintro e v4 ⟨x, rfl, hx, k4, o4⟩; have D4 : Hid (TSt B a0 len cap b w v4 (.slice ao T.length co) T) := D.out.draw o4 k4))
        by_cases hc : (T.length : Int) < 30 + x
        · have hz := D4.out.only.size
          go_wp2_with (first
            | (at_builtin; refine wpList_append_own _ rfl _ _ 53 rfl w.heap.size 61 i0 _ 4 32 Try.underlying53 hi hz0 hz1 hz2 rfl (by decide) _ _ _ rfl (D4.out.own.alloc _) ⟨v4.heap.size, 0, none⟩ 1 1 [.int .i64 ((T.length : Int) - 1), .int .i64 (5000 - (T.length : Int)), .int .i64 (6000 - (T.length : Int)), .int .i64 3000] rfl rfl ?c1 ?c2 ?c3 ?c4 ?c5 ?c6; rotate_left 5; intro v' w' hown' hgr hnil))
          case c1 => exact four_news (by go_simp) (by go_simp) (by go_simp) (by go_simp)
          case c2 => exact flatQ_cell [((T.length : Int) - 1, 5000 - (T.length : Int), 6000 - (T.length : Int), 3000)]
          case c3 => unfold maxLen; omega
          case c4 => omega
          case c5 => simp; omega
          have d5 := (D4.out.next (new_below _ (.cells #[.int .i64 ((T.length : Int) - 1), .int .i64 (5000 - (T.length : Int)), .int .i64 (6000 - (T.length : Int)), .int .i64 3000] 61)))
          have D5 : Hid (TSt B a0 len cap b w w' v' (T ++ [((T.length : Int) - 1, 5000 - (T.length : Int), 6000 - (T.length : Int), 3000)])) := d5.list (d5.below hgr (fun g e => (d5.own.lt g e).1)) (by rw [flatQ_append, List.length_append]; exact hown')
          go_roundw
          case rel => exact ⟨T.length + 1, _, by go_num, by simp, by omega, D5⟩
          case measure => first | (simp [intOf]; done) | (simp [intOf]; omega)
        · have hc' : decide ((T.length : Int) < 30 + x) = false := decide_eq_false hc
          go_wp2
          go_ret
          exact ⟨_, _, _, T, rfl, D4.out, hj⟩
set_option maxHeartbeats 4000000 in
theorem l6DrawOne_acc {B : Nat} {a0 : Option Addr} {len cap b : Nat} {w : World} (k : Cur B a0 len cap b w) :
    Calls Try.prog 82 #[.pointer (some ⟨b, 0, none⟩)] w (fun e w' => ∃ a c T i, e = .returned (.tuple #[.slice a (List.length T) c, .int .i64 i]) ∧ TSt B a0 len cap b w w' (.slice a T.length c) T ∧ T.length ≤ 31) := by
  go_enter Try.func82, Try.ntmps82
  go_upto_region 2 with (first
    | (go_at_call 118; refine (l6DrawAny_acc k).mono ?_; rintro e v1 ⟨a1, n1, c1, T, rfl, d1, hT⟩; have D1 : Hid (TSt B a0 len cap b w v1 (.slice a1 n1 c1) T) := d1; clear d1))
  obtain ⟨ao, co, ev⟩ := own_slice D1.out.own
  injection ev with e1 e2 e3
  subst e2
  clear e1 e3
  have hTi : (T.length : Int) ≤ 31 := by omega
  go_upto_if 14 with (first
    | (go_at_call 68; refine (below_acc _ D1.out.cur (Only.refl _ _) (by omega) (by omega)).mono ?_; rintro e v2 ⟨x2, rfl, hx2, k2, o2⟩; have D2 : Hid (TSt B a0 len cap b w v2 (.slice a1 T.length c1) T) := D1.out.draw o2 k2)
    | (go_at_call 69; refine (once_acc _ D2.out.cur (Only.refl _ _) (by omega) (by omega)).mono ?_; rintro e v3 ⟨f3, rfl, k3, o3⟩; have D3 : Hid (TSt B a0 len cap b w v3 (.slice a1 T.length c1) T) := D2.out.draw o3 k3))
  clear D1 D2
  cases f3
  · go_wp2
    go_ret2
    exact ⟨a1, c1, T, _, rfl, D3.out, hT⟩
  · have DA : Hid (TSt B a0 len cap b w (v3.alloc (.cells #[.int .i64 (-1), .int .i64 (T.length : Int), .int .i64 4611686018427387904, .int .i64 (-9223372036854775808)] 2)) (.slice a1 T.length c1) T) := D3.out.next (new_below _ _)
    go_wp2_with (first
      | (go_at_call 68; refine (below_acc 4 DA.out.cur (Only.refl _ _) (by omega) (by omega)).mono ?_; rintro e vT ⟨x4, rfl, hx4, kT, oT⟩; have DZ : Hid (TSt B a0 len cap b w vT (.slice a1 T.length c1) T) := DA.out.draw oT kT; obtain ⟨X, rfl⟩ := Int.eq_ofNat_of_zero_le hx4.1; have hX : X < 4 := (by omega); have hXi : (X : Int) < 4 := (by omega); obtain ⟨yy, hy⟩ := tab4_in (-1) (T.length : Int) 4611686018427387904 (-9223372036854775808) X hX; have hcell : vT.cell? ⟨v3.heap.size, X, none⟩ = some (.int .i64 yy) := (table_cell (w := v3) D3.out.cur.hi oT X).trans hy))
    go_ret2
    exact ⟨a1, c1, T, _, rfl, DZ.out, hT⟩
/-- A tree and a number, drawn. -/
def P6Post (w : World) (e : Ending) (w' : World) : Prop := ∃ a c T i, e = .returned (.tuple #[.slice a (List.length T) c, .int .i64 i]) ∧ Quad w'.heap.size w' a T ∧ T.length ≤ 31 ∧ Below w.heap.size w w'
theorem own_quad {w : World} {base : Nat} {a : Option Addr} {c : Nat} {t : TypeId} {T : List Q4} (h : w.ownsRow base t 4 (.slice a T.length c) T.length (flatQ T)) : Quad w.heap.size w a T := by
  by_cases hn : (Value.slice a T.length c) = .slice none 0 0
  · injection hn with h1 h2 h3
    obtain rfl : T = [] := List.eq_nil_of_length_eq_zero h2
    exact Quad.nil _ _ _
  · obtain ⟨g, cap, e, _, h2, f, _⟩ := own_quads h hn
    injection e with e1 _ _
    subst e1
    exact f.quad h2
theorem drawPath_any {B : Nat} {a0 : Option Addr} {len : Nat} (cap : Nat) {w : World} (hs : len ≤ 4096) (row : Row B a0 len w) (hB : B ≤ w.heap.size) :
    Calls Try.prog 32 #[.slice a0 len cap] w (P6Post w) := by
  go_enter Try.func32, Try.ntmps32
  go_wp2_with (first
    | (go_at_call 50; refine (new_any cap hs row hB).mono ?_; rintro e w1 ⟨b, rfl, hb, k1, hb1⟩)
    | (go_at_call 82; refine (l6DrawOne_acc k1).mono ?_; rintro e w2 ⟨a, c, T, i, rfl, d, hT⟩; have D : Hid (TSt B a0 len cap b w1 w2 (.slice a T.length c) T) := d; clear d))
  go_ret2
  exact ⟨a, c, T, i, rfl, own_quad D.out.own, hT, hb1.trans (D.out.only.below hb hb1.size)⟩
end Go.Proofs.Ytmophpbfaonfmac
