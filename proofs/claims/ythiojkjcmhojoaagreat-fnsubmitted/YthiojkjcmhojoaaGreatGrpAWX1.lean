/- Lemmas on the way, of several texts: Draw6b, Draw6c, LikeL. -/
import Derived.Test.YthiojkjcmhojoaaGreatGrpAV
import Derived.Deep.DeepCutAuto
import Derived.Test.YthiojkjcmhojoaaGreatGrpAE
import Derived.Test.YthiojkjcmhojoaaGreatGrpAW
import Derived.Test.YthiojkjcmhojoaaGreatGrpAF
import Derived.BigQuiet
namespace Go.Proofs.YthiojkjcmhojoaaGreat
open Go.ChangeShapes Go.WideShapes Go.ChangeAt Go.RowKit
set_option maxRecDepth 100000
set_option linter.unusedVariables false
set_option linter.unusedSimpArgs false
theorem own_some_Draw6b {w : World} {base : Nat} {e : TypeId} {s n : Nat} {v : Value} {xs : List Value} (h : w.ownsRow base e s v n xs) (hn : 1 ≤ n) : ∃ g cap, v = .slice (some ⟨g, 0, none⟩) n cap ∧ base ≤ g ∧ g < w.heap.size := by
 rcases h.2 with ⟨rfl, h0⟩ | ⟨g, cap, cur, rfl, hb, _⟩
 · omega
 · exact ⟨g, cap, rfl, hb, (h.lt g rfl).2⟩
/-- Both rows of the draw. -/
structure T2St (B : Nat) (a0 : Option Addr) (len cap b : Nat) (w wr : World) (v : Value) (T : List Q4) (u : Value) (S : List Int) : Prop where
 st : TSt B a0 len cap b w wr v T
 sp : wr.ownsRow w.heap.size 2 1 u S.length (flatI S)
section
variable {B : Nat} {a0 : Option Addr} {len cap b : Nat} {w wr : World} {v u : Value} {T : List Q4} {S : List Int}
theorem T2St.draw (d : T2St B a0 len cap b w wr v T u S) {w2 : World} (o : Only b wr w2) (k : Cur B a0 len cap b w2) : T2St B a0 len cap b w w2 v T u S := ⟨d.st.draw o k, row_only d.sp o d.st.lt⟩
theorem T2St.next (d : T2St B a0 len cap b w wr v T u S) {w2 : World} (h : Below wr.heap.size wr w2) : T2St B a0 len cap b w w2 v T u S := ⟨d.st.next h, row_next d.sp h⟩
theorem T2St.cells {g c : Nat} (d : T2St B a0 len cap b w wr v T (.slice (some ⟨g, 0, none⟩) S.length c) S) {p : Nat} (hp : p < S.length) : wr.cell? ⟨g, p, none⟩ = some (.int .i64 S[p]) ∧ wr.frozen? ⟨g, p, none⟩ = false :=
 ⟨(d.sp.cellAt p (by omega)).trans (flatI_at hp), d.sp.frozenAt p⟩
theorem T2St.ceil {g c : Nat} (d : T2St B a0 len cap b w wr (.slice (some ⟨g, 0, none⟩) T.length c) T u S) {p : Nat} (hp : p < T.length) : wr.cell? ⟨g, p * 4 + 2, none⟩ = some (.int .i64 T[p].2.2.1) :=
 (d.st.own.cellAt _ (by omega)).trans (flatQ_get T p hp).2.2.1
theorem T2St.put {g c : Nat} (d : T2St B a0 len cap b w wr v T (.slice (some ⟨g, 0, none⟩) S.length c) S) (hg : w.heap.size ≤ g) (p : Nat) (x : Int) : T2St B a0 len cap b w (wr.setCell ⟨g, p, none⟩ (.int .i64 x)) v T (.slice (some ⟨g, 0, none⟩) (S.set p x).length c) (S.set p x) := by
 have h := d.sp.stored p (.int .i64 x)
 have hs : (wr.setCell ⟨g, p, none⟩ (.int .i64 x)).ownsRow w.heap.size 2 1 (.slice (some ⟨g, 0, none⟩) (S.set p x).length c) (S.set p x).length (flatI (S.set p x)) := by
   rw [List.length_set, ← flatI_set]
   exact h.1
 refine ⟨d.st.list ((Below.refl _ _).setCell (p := ⟨g, p, none⟩) hg _) (d.st.own.kept h.2 ?_), hs⟩
 exact rows_keep d.st.own d.sp (by decide)
theorem T2St.app (d : T2St B a0 len cap b w wr v T u S) {w' : World} {v' : Value} {x : Q4} (hg : wr.grownBy w' v.ownBlock) (ho : w'.ownsRow w.heap.size 110 4 v' (T.length + 1) (flatQ T ++ flatQ [x])) : T2St B a0 len cap b w w' v' (T ++ [x]) u S :=
 ⟨d.st.list (d.st.below hg (fun g e => (d.st.own.lt g e).1)) (by rw [flatQ_append, List.length_append]; exact ho), d.sp.kept hg (rows_keep d.sp d.st.own (by decide))⟩
theorem T2St.appI (d : T2St B a0 len cap b w wr v T u S) {w' : World} {u' : Value} {x : Int} (hg : wr.grownBy w' u.ownBlock) (ho : w'.ownsRow w.heap.size 2 1 u' (S.length + 1) (flatI S ++ flatI [x])) : T2St B a0 len cap b w w' v T u' (S ++ [x]) :=
 ⟨d.st.list (d.st.below hg (fun g e => (d.sp.lt g e).1)) (d.st.own.kept hg (rows_keep d.st.own d.sp (by decide))), by rw [flatI_append, List.length_append]; exact ho⟩
end
set_option maxHeartbeats 8000000 in
theorem l6Draw_acc {B : Nat} {a0 : Option Addr} {len cap b : Nat} {w : World} (k : Cur B a0 len cap b w) :
   Calls Tryz.prog 142 #[.pointer (some ⟨b, 0, none⟩)] w (fun e w' => ∃ a n c T, e = .returned (.slice a n c) ∧ TSt B a0 len cap b w w' (.slice a n c) T ∧ (1 ≤ T.length ∧ T.length ≤ 8)) := by
 obtain ⟨i0, hi, hz0, hz1, hz2⟩ := info_parts info_class
 obtain ⟨j0, hj, jz0, jz1, jz2⟩ := info_parts info_i64
 have hlt := k.hi
 go_enter Tryz.func142, Tryz.ntmps142
 go_upto_region 2 with (first
   | (go_at_call 35; have g1 := x1q; refine (below_acc _ k1 o1 (by omega) (by omega)).mono ?_; rintro e w2 ⟨x2, rfl, hx2, k2, o2⟩)
   | (go_at_call 35; refine (below_acc _ k (Only.refl _ _) (by omega) (by omega)).mono ?_; rintro e w1 ⟨x1, rfl, hx1, k1, o1⟩; have x1q := hx1))
 obtain ⟨R, hR⟩ : ∃ R, 100000 + x1 = R := ⟨_, rfl⟩
 obtain ⟨U, hU⟩ : ∃ U, 1500 + x2 = U := ⟨_, rfl⟩
 rw [hR, hU]
 have hR0 : 100000 ≤ R := by omega
 have hR1 : R ≤ 1100000 := by omega
 clear hR hU hx1 hx2 x1q
 have zw := o2.size
 have D : Hid (TSt B a0 len cap b w (w2.alloc (.cells #[.int .i64 (-1), .int .i64 R, .int .i64 0, .int .i64 U] 110)) (.slice (some ⟨w2.heap.size, 0, none⟩) 1 1) [(-1, R, 0, U)]) :=
   ⟨k2.alloc _, o2.alloc _, hlt, own_fresh w2 w.heap.size zw _ _ _ _⟩
 clear k1 o1 k2 o2
 obtain ⟨v2, hv2⟩ : ∃ v2, w2.alloc (.cells #[.int .i64 (-1), .int .i64 R, .int .i64 0, .int .i64 U] 110) = v2 := ⟨_, rfl⟩
 rw [hv2] at D ⊢
 have zv : w2.heap.size < v2.heap.size := by rw [← hv2]; simp
 obtain ⟨g, hg⟩ : ∃ g, w2.heap.size = g := ⟨_, rfl⟩
 rw [hg] at D zv zw ⊢
 clear hg hv2
 have cR : v2.cell? ⟨g, 1, none⟩ = some (.int .i64 R) := D.out.own.cellAt 1 (by decide)
 go_cut [] from 16 to 25 (fun wd => ∃ y, (0 ≤ y ∧ y < 500000) ∧ TSt B a0 len cap b w wd (.slice (some ⟨g, 0, none⟩) 1 1) [(-1, R, R + y, U)])
 case first =>
   go_region_held3 (fun w' => w'.cell? ⟨g, 1, none⟩ = some (.int .i64 R)) (first | assumption | (simp only [World.cell?_drew]; assumption) | (exact (set_other (by decide)).trans (by assumption)) | go_keep)
     (first
       | (go_at_call 35; refine (below_acc 500000 (D.out.next (by go_grown)).cur (Only.refl _ _) (by omega) (by omega)).mono ?_; rintro e vB ⟨y, rfl, hy, kB, oB⟩; have DB : Hid (TSt B a0 len cap b w vB (.slice (some ⟨g, 0, none⟩) 1 1) [(-1, R, 0, U)]) := (D.out.next (by go_grown)).draw oB kB; have j0' : vB.cell? ⟨g, 1, none⟩ = some (.int .i64 R) := DB.out.own.cellAt 1 (by decide); have j2' : vB.cell? ⟨g, 2, none⟩ = some (.int .i64 0) := DB.out.own.cellAt 2 (by decide); have jF : vB.frozen? ⟨g, 2, none⟩ = false := DB.out.own.frozenAt 2; have e1 : IntKind.i64.wrap (R + y) = R + y := (by rw [IntKind.wrap_i64]; omega)))
   all_goals (repeat go_step)
   all_goals go_meet
   all_goals exact ⟨y, hy, DB.out.list ((Below.refl _ _).setCell (p := ⟨g, 2, none⟩) zw _) (DB.out.own.stored 2 _).1⟩
 case rest =>
   clear D cR
   obtain ⟨y, hy, d⟩ := hcut
   have D : Hid (TSt B a0 len cap b w wc (.slice (some ⟨g, 0, none⟩) 1 1) [(-1, R, R + y, U)]) := d
   have cR : wc.cell? ⟨g, 1, none⟩ = some (.int .i64 R) := d.own.cellAt 1 (by decide)
   have zc := d.only.size
   clear d
   go_upto_region 4 with (fail)
   have D2 : Hid (T2St B a0 len cap b w (wc.alloc (.cells #[.int .i64 R] 2)) (.slice (some ⟨g, 0, none⟩) 1 1) [(-1, R, R + y, U)] (.slice (some ⟨wc.heap.size, 0, none⟩) 1 1) [R]) :=
     ⟨D.out.next (new_below _ _), own_freshI wc w.heap.size zc R⟩
   have HD : Hid (DOk [(-1, R, R + y, U)] [R]) := DOk.one (by omega) (by omega) (by omega)
   clear D
   go_wp2_with (first
     | (go_at_call 35; refine (below_acc _ D2.out.st.cur (Only.refl _ _) (by omega) (by omega)).mono ?_; rintro e w4 ⟨x4, rfl, hx4, k4, o4⟩; have D3 : Hid (T2St B a0 len cap b w w4 (.slice (some ⟨g, 0, none⟩) 1 1) [(-1, R, R + y, U)] (.slice (some ⟨wc.heap.size, 0, none⟩) 1 1) [R]) := D2.out.draw o4 k4))
   go_loopw [3, 4, 5] (fun vo vs s wr => ∃ (j : Nat) (T : List Q4) (S : List Int), s = .int .i64 j ∧ T.length + j ≤ 8 ∧ Hid (DOk T S) ∧ Hid (T2St B a0 len cap b w wr vo T vs S)) (fun _ _ s _ => (intOf s).toNat)
   case atStart => exact ⟨x4.toNat, _, _, by rw [Int.toNat_of_nonneg hx4.1], by simp; omega, HD, D3⟩
   case round =>
     clear D2 D3 HD cR hy hx4 k4 o4
     obtain ⟨j, T, S, rfl, hjl, HD, D⟩ := hrel
     have hT1 := HD.out.2.1
     obtain ⟨go, co, rfl, hgo, hgo'⟩ := own_some_Draw6b D.out.st.own hT1
     have hS1 : 1 ≤ S.length := by rw [HD.out.1]; exact hT1
     obtain ⟨gs, cs, rfl, hgs, hgs'⟩ := own_some_Draw6b D.out.sp hS1
     cases j with
     | zero =>
       go_wp2
       go_ret
       exact ⟨_, _, _, T, rfl, D.out.st, hT1, by omega⟩
     | succ j =>
       have hj0 : (0 : Int) < (j : Int) + 1 := by omega
       have hT1' : (1 : Int) ≤ (T.length : Int) := by omega
       have hTn : (T.length : Int) ≤ 8 := by omega
       go_upto_region 8 with (first
         | (go_at_call 35; refine (below_acc _ D.out.st.cur (Only.refl _ _) (by omega) (by omega)).mono ?_; rintro e v1 ⟨xp, rfl, hxp, k1, o1⟩; have D1 : Hid (T2St B a0 len cap b w v1 (.slice (some ⟨go, 0, none⟩) T.length co) T (.slice (some ⟨gs, 0, none⟩) S.length cs) S) := D.out.draw o1 k1))
       obtain ⟨p, rfl⟩ := Int.eq_ofNat_of_zero_le hxp.1
       have hp : p < T.length := by omega
       have hp' : p < S.length := by rw [HD.out.1]; exact hp
       have hpS : (p : Int) < (S.length : Int) := by omega
       have hpT : (p : Int) < (T.length : Int) := by omega
       have hnum := HD.out.2.2 p hp hp'
       obtain ⟨s, hs⟩ : ∃ s, S[p] = s := ⟨_, rfl⟩
       obtain ⟨c, hc⟩ : ∃ c, T[p].2.2.1 = c := ⟨_, rfl⟩
       have HS : Hid (S[p] = s) := hs
       have HC : Hid (T[p].2.2.1 = c) := hc
       rw [hs, hc] at hnum
       clear hs hc
       have n0 := hnum.1
       have n1 := hnum.2.1
       have n2 := hnum.2.2
       clear hnum hxp
       have c1 := (D1.out.cells hp').1
       rw [HS.out] at c1
       go_upto_region 9 with (first
         | (go_at_call 35; refine (below_acc _ D1.out.st.cur (Only.refl _ _) (by omega) (by omega)).mono ?_; rintro e v2 ⟨r, rfl, hr, k2, o2⟩; have D2 : Hid (T2St B a0 len cap b w v2 (.slice (some ⟨go, 0, none⟩) T.length co) T (.slice (some ⟨gs, 0, none⟩) S.length cs) S) := D1.out.draw o2 k2))
       go_upto_if 49 with (first
         | (go_at_call 36; refine (once_acc _ D2.out.st.cur (Only.refl _ _) (by omega) (by omega)).mono ?_; rintro e v3 ⟨f, rfl, k3, o3⟩; have D3 : Hid (T2St B a0 len cap b w v3 (.slice (some ⟨go, 0, none⟩) T.length co) T (.slice (some ⟨gs, 0, none⟩) S.length cs) S) := D2.out.draw o3 k3))
       have c3 := (D3.out.cells hp').1
       rw [HS.out] at c3
       go_cut [7] from 50 to 54 (fun q wd => wd = v3 ∧ ∃ r : Int, q = .int .i64 r ∧ 0 ≤ r ∧ r ≤ s)
       case first =>
         cases f
         · go_wp2
           go_meet
           exact ⟨rfl, r, rfl, hr.1, by omega⟩
         · go_wp2
           go_meet
           exact ⟨rfl, s / 2, rfl, by omega, by omega⟩
       case rest =>
         obtain ⟨hwv, q, rfl, q0, q1⟩ := hcut
         subst hwv
         clear D D1 D2 hr c1 k1 o1 k2 o2 k3 o3
         have cF := (D3.out.cells hp').2
         go_upto_region 12 with (fail)
         have D4 : Hid (T2St B a0 len cap b w (wc.setCell ⟨gs, p, none⟩ (.int .i64 (s - q))) (.slice (some ⟨go, 0, none⟩) T.length co) T (.slice (some ⟨gs, 0, none⟩) S.length cs) (S.set p (s - q))) := by
           have h := D3.out.put hgs p (s - q)
           rw [List.length_set] at h
           exact h
         obtain ⟨v4, hv4⟩ : ∃ v4, wc.setCell ⟨gs, p, none⟩ (.int .i64 (s - q)) = v4 := ⟨_, rfl⟩
         rw [hv4] at D4 ⊢
         clear hv4 D3 c3 cF
         have c4 := D4.out.ceil hp
         rw [HC.out] at c4
         go_upto_region 13 with (first
           | (go_at_call 35; have g1 := m5; refine (below_acc _ D5.out.st.cur (Only.refl _ _) (by omega) (by omega)).mono ?_; rintro e v6 ⟨z, rfl, hz, k6, o6⟩; have D6 : Hid (T2St B a0 len cap b w v6 (.slice (some ⟨go, 0, none⟩) T.length co) T (.slice (some ⟨gs, 0, none⟩) S.length cs) (S.set p (s - q))) := D5.out.draw o6 k6)
           | (go_at_call 35; refine (below_acc _ D4.out.st.cur (Only.refl _ _) (by omega) (by omega)).mono ?_; rintro e v5 ⟨x, rfl, hx, k5, o5⟩; have D5 : Hid (T2St B a0 len cap b w v5 (.slice (some ⟨go, 0, none⟩) T.length co) T (.slice (some ⟨gs, 0, none⟩) S.length cs) (S.set p (s - q))) := D4.out.draw o5 k5; have m5 := hx)
           | (at_builtin; refine wpList_append_own _ rfl _ _ 24 rfl w.heap.size 110 i0 _ 4 32 Tryz.underlying24 hi hz0 hz1 hz2 rfl (by decide) _ _ _ rfl (D6.out.st.own.alloc _) ⟨v6.heap.size, 0, none⟩ 1 1 [.int .i64 (p : Int), .int .i64 q, .int .i64 (q + x), .int .i64 (1500 + z)] rfl rfl ?c1 ?c2 ?c3 ?c4 ?c5 ?c6; rotate_left 5; intro v' w' hown' hgr hnil))
         case c1 => exact four_news (by go_simp) (by go_simp) (by go_simp) (by go_simp)
         case c2 => exact flatQ_cell [((p : Int), q, q + x, 1500 + z)]
         case c3 => unfold maxLen; omega
         case c4 => omega
         case c5 => have := D6.out.st.only.size; simp; omega
         have D7 : Hid (T2St B a0 len cap b w w' v' (T ++ [((p : Int), q, q + x, 1500 + z)]) (.slice (some ⟨gs, 0, none⟩) S.length cs) (S.set p (s - q))) := (D6.out.next (new_below _ _)).app hgr hown'
         obtain ⟨a', c', rfl⟩ := own_slice hown'
         have HD2 : Hid (DOk (T ++ [((p : Int), q, q + x, 1500 + z)]) (S.set p (s - q) ++ [q])) := by
           have h := HD.out.more hp hp' (r := q) (x := x) (z := 1500 + z) q0 (by rw [HS.out]; exact q1) hx.1 (by omega)
           rw [HS.out] at h
           exact h
         have hSl : (S.set p (s - q)).length ≤ 8 := by rw [List.length_set, HD.out.1]; omega
         have hw7 := D7.out.st.only.size
         clear D4 D5 D6 k5 o5 k6 o6 m5 c4 hgr hnil hown'
         go_wp2_with (first
           | (at_builtin; refine wpList_append_own _ rfl _ _ 45 rfl w.heap.size 2 j0 _ 1 8 Tryz.underlying45 hj jz0 jz1 jz2 rfl (by decide) _ _ _ rfl (D7.out.sp.alloc _) ⟨w'.heap.size, 0, none⟩ 1 1 [.int .i64 q] rfl rfl ?d1 ?d2 ?d3 ?d4 ?d5 ?d6; rotate_left 5; intro u' w8 hown8 hgr8 hnil8))
         case d1 => exact one_news (by go_simp)
         case d2 => exact flatI_one [q]
         case d3 => unfold maxLen; omega
         case d4 => omega
         case d5 => simp; omega
         have D8 := (D7.out.next (new_below _ (.cells #[.int .i64 q] 2))).appI hgr8 hown8
         go_roundw
         case rel => exact ⟨j, _, _, by go_num, by simp; omega, HD2, D8⟩
         case measure => first | (simp [intOf]; done) | (simp [intOf]; omega)
def intsQ (T : List Q4) : List Int := T.flatMap fun x => [x.1, x.2.1, x.2.2.1, x.2.2.2]
theorem flatQ_ints (T : List Q4) : flatQ T = (intsQ T).map fun z => Value.int .i64 z := by
 induction T with
 | nil => rfl
 | cons x T ih =>
   show Value.int .i64 x.1 :: Value.int .i64 x.2.1 :: Value.int .i64 x.2.2.1 :: Value.int .i64 x.2.2.2 :: flatQ T = Value.int .i64 x.1 :: Value.int .i64 x.2.1 :: Value.int .i64 x.2.2.1 :: Value.int .i64 x.2.2.2 :: (intsQ T).map fun z => Value.int .i64 z
   rw [ih]
theorem ints_any : ∀ (n : Nat) (L : List Int), L.length = n * 4 → ∃ T : List Q4, T.length = n ∧ intsQ T = L
  | 0, L, h => ⟨[], rfl, (List.eq_nil_of_length_eq_zero (by omega)).symm⟩
  | n + 1, a :: b :: c :: d :: L, h => by
    obtain ⟨T, hT, e⟩ := ints_any n L (by simp at h; omega)
    exact ⟨(a, b, c, d) :: T, by simp [hT], by show a :: b :: c :: d :: intsQ T = _; rw [e]⟩
  | n + 1, [], h => by simp at h
  | n + 1, [_], h => by simp at h; omega
  | n + 1, [_, _], h => by simp at h; omega
  | n + 1, [_, _, _], h => by simp at h; omega
/-- One number of a row of classes is another one. -/
theorem own_put {w : World} {base g c : Nat} {t : TypeId} {T : List Q4} (h : w.ownsRow base t 4 (.slice (some ⟨g, 0, none⟩) T.length c) T.length (flatQ T)) (j : Nat) (z : Int) :
   ∃ T' : List Q4, T'.length = T.length ∧ (w.setCell ⟨g, j, none⟩ (.int .i64 z)).ownsRow base t 4 (.slice (some ⟨g, 0, none⟩) T.length c) T'.length (flatQ T') := by
 have hs := (h.stored j (.int .i64 z)).1
 have hl : ((intsQ T).set j z).length = T.length * 4 := by
   have h1 := flatQ_length T
   rw [flatQ_ints, List.length_map] at h1
   rw [List.length_set, h1]
 obtain ⟨T', e1, e2⟩ := ints_any T.length _ hl
 refine ⟨T', e1, ?_⟩
 rw [e1, flatQ_ints T', e2, List.map_set, ← flatQ_ints]
 exact hs
theorem TSt.put {B : Nat} {a0 : Option Addr} {len cap b : Nat} {w wr : World} {T : List Q4} {g c : Nat} (d : TSt B a0 len cap b w wr (.slice (some ⟨g, 0, none⟩) T.length c) T) (hg : w.heap.size ≤ g) (j : Nat) (z : Int) :
   ∃ T' : List Q4, T'.length = T.length ∧ TSt B a0 len cap b w (wr.setCell ⟨g, j, none⟩ (.int .i64 z)) (.slice (some ⟨g, 0, none⟩) T.length c) T' := by
 obtain ⟨T', e, h⟩ := own_put d.own j z
 exact ⟨T', e, d.list ((Below.refl _ _).setCell (p := ⟨g, j, none⟩) hg _) h⟩
theorem own_quad {w : World} {base : Nat} {a : Option Addr} {c : Nat} {t : TypeId} {T : List Q4} (h : w.ownsRow base t 4 (.slice a T.length c) T.length (flatQ T)) : Quad w.heap.size w a T := by
 by_cases hn : (Value.slice a T.length c) = .slice none 0 0
 · injection hn with h1 h2 h3
   obtain rfl : T = [] := List.eq_nil_of_length_eq_zero h2
   exact Quad.nil _ _ _
 · obtain ⟨g, cap, e, _, h2, f, _⟩ := own_quads h hn
   injection e with e1 _ _
   subst e1
   exact f.quad h2
set_option maxHeartbeats 8000000 in
theorem likeL_same {w : World} {aT1 aO1 aP1 aT2 aO2 aP2 : Option Addr} (cT1 cO1 cP1 cT2 cO2 cP2 : Nat) {T O P : List Q4} (hT1 : Quad w.heap.size w aT1 T) (hO1 : Quad w.heap.size w aO1 O) (hP1 : Quad w.heap.size w aP1 P) (hT2 : Quad w.heap.size w aT2 T) (hO2 : Quad w.heap.size w aO2 O) (hP2 : Quad w.heap.size w aP2 P) (lT : T.length ≤ 1000000) (lO : O.length ≤ 1000000) (lP : P.length ≤ 1000000) :
   Calls Tryz.prog 55 #[lendV aT1 T.length cT1 aO1 O.length cO1 aP1 P.length cP1, lendV aT2 T.length cT2 aO2 O.length cO2 aP2 P.length cP2] w fun e w' => e = .returned (.bool true) ∧ Below w.heap.size w w' := by
 have iT : (T.length : Int) ≤ 1000000 := by omega
 have iO : (O.length : Int) ≤ 1000000 := by omega
 have iP : (P.length : Int) ≤ 1000000 := by omega
 obtain ⟨v, hv⟩ : ∃ v, v = (w.alloc (.cells #[.slice aT1 T.length cT1, .slice aO1 O.length cO1, .slice aP1 P.length cP1] 27)).alloc (.cells #[.slice aT2 T.length cT2, .slice aO2 O.length cO2, .slice aP2 P.length cP2] 27) := ⟨_, rfl⟩
 have hbv : Below w.heap.size w v := by rw [hv]; go_grown
 have hvz : w.heap.size + 2 ≤ v.heap.size := by rw [hv]; simp
 have HX : Hid (∀ w', Below v.heap.size v w' → w'.cell? ⟨w.heap.size, 0, none⟩ = some (.slice aT1 T.length cT1) ∧ w'.cell? ⟨w.heap.size, 1, none⟩ = some (.slice aO1 O.length cO1) ∧ w'.cell? ⟨w.heap.size, 2, none⟩ = some (.slice aP1 P.length cP1) ∧ w'.cell? ⟨w.heap.size + 1, 0, none⟩ = some (.slice aT2 T.length cT2) ∧ w'.cell? ⟨w.heap.size + 1, 1, none⟩ = some (.slice aO2 O.length cO2) ∧ w'.cell? ⟨w.heap.size + 1, 2, none⟩ = some (.slice aP2 P.length cP2)) := fun w' h => by
   have c : ∀ b o : Nat, b < v.heap.size → w'.cell? ⟨b, o, none⟩ = v.cell? ⟨b, o, none⟩ := fun b o hb => h.cell (p := ⟨b, o, none⟩) hb
   refine ⟨(c _ 0 (by omega)).trans ?_, (c _ 1 (by omega)).trans ?_, (c _ 2 (by omega)).trans ?_, (c _ 0 (by omega)).trans ?_, (c _ 1 (by omega)).trans ?_, (c _ 2 (by omega)).trans ?_⟩ <;> rw [hv] <;> go_simp
 have ⟨x0, x1, x2, y0, y1, y2⟩ := HX.out v (Below.refl _ _)
 go_enter Tryz.func55, Tryz.ntmps55
 go_upto_region 1 with (fail)
 rw [← hv]
 clear hv
 go_wp2
 clear x0 x1 x2 y0 y1 y2
 go_loopw [5] (fun i wr => ∃ k : Nat, i = .int .i64 k ∧ k ≤ T.length ∧ Hid (Below v.heap.size v wr)) (fun i _ => T.length - (intOf i).toNat)
 case atStart => exact ⟨0, rfl, by omega, Below.refl _ _⟩
 case round =>
   obtain ⟨k, rfl, hk, HBT⟩ := hrel
   have ⟨x0, x1, x2, y0, y1, y2⟩ := HX.out wr HBT.out
   by_cases hlt : k < T.length
   · have hlt' : (k : Int) < (T.length : Int) := by omega
     have hbw := below_step hbv HBT.out
     obtain ⟨b1, o1, rfl, hb1, d0, d1, d2, d3⟩ := hT1.at hbw k hlt
     obtain ⟨b2, o2, rfl, hb2, e0, e1, e2, e3⟩ := hT2.at hbw k hlt
     obtain ⟨z, hz⟩ : ∃ z, T[k] = z := ⟨_, rfl⟩
     rw [hz] at d0 d1 d2 d3 e0 e1 e2 e3
     clear hz
     obtain ⟨p, q, r, s⟩ := z
     simp only at d0 d1 d2 d3 e0 e1 e2 e3
     go_upto_region 6 with (fail)
     go_quiet (fail)
     go_wp2
     go_roundw
     case rel => exact ⟨k + 1, by go_num, by omega, below_drews HBT.out _⟩
     case measure => first | (simp [intOf]; done) | (simp [intOf]; omega)
   · have hlt' : ¬ (k : Int) < (T.length : Int) := by omega
     go_wp2
     clear x0 x1 x2 y0 y1 y2
     go_loopw [6] (fun i wr => ∃ k : Nat, i = .int .i64 k ∧ k ≤ O.length ∧ Hid (Below v.heap.size v wr)) (fun i _ => O.length - (intOf i).toNat)
     case atStart => exact ⟨0, rfl, by omega, HBT⟩
     case round =>
       obtain ⟨k, rfl, hk, HBO⟩ := hrel
       have ⟨x0, x1, x2, y0, y1, y2⟩ := HX.out wr HBO.out
       by_cases hlt : k < O.length
       · have hlt' : (k : Int) < (O.length : Int) := by omega
         have hbw := below_step hbv HBO.out
         obtain ⟨b1, o1, rfl, hb1, d0, d1, d2, d3⟩ := hO1.at hbw k hlt
         obtain ⟨b2, o2, rfl, hb2, e0, e1, e2, e3⟩ := hO2.at hbw k hlt
         obtain ⟨z, hz⟩ : ∃ z, O[k] = z := ⟨_, rfl⟩
         rw [hz] at d0 d1 d2 d3 e0 e1 e2 e3
         clear hz
         obtain ⟨p, q, r, s⟩ := z
         simp only at d0 d1 d2 d3 e0 e1 e2 e3
         go_upto_region 11 with (fail)
         go_quiet (fail)
         go_wp2
         go_roundw
         case rel => exact ⟨k + 1, by go_num, by omega, below_drews HBO.out _⟩
         case measure => first | (simp [intOf]; done) | (simp [intOf]; omega)
       · have hlt' : ¬ (k : Int) < (O.length : Int) := by omega
         go_wp2
         clear x0 x1 x2 y0 y1 y2
         go_loopw [7] (fun i wr => ∃ k : Nat, i = .int .i64 k ∧ k ≤ P.length ∧ Hid (Below v.heap.size v wr)) (fun i _ => P.length - (intOf i).toNat)
         case atStart => exact ⟨0, rfl, by omega, HBO⟩
         case round =>
           obtain ⟨k, rfl, hk, HBP⟩ := hrel
           have ⟨x0, x1, x2, y0, y1, y2⟩ := HX.out wr HBP.out
           by_cases hlt : k < P.length
           · have hlt' : (k : Int) < (P.length : Int) := by omega
             have hbw := below_step hbv HBP.out
             obtain ⟨b1, o1, rfl, hb1, d0, d1, d2, d3⟩ := hP1.at hbw k hlt
             obtain ⟨b2, o2, rfl, hb2, e0, e1, e2, e3⟩ := hP2.at hbw k hlt
             obtain ⟨z, hz⟩ : ∃ z, P[k] = z := ⟨_, rfl⟩
             rw [hz] at d0 d1 d2 d3 e0 e1 e2 e3
             clear hz
             obtain ⟨p, q, r, s⟩ := z
             simp only at d0 d1 d2 d3 e0 e1 e2 e3
             go_upto_region 16 with (fail)
             go_quiet (fail)
             go_wp2
             go_roundw
             case rel => exact ⟨k + 1, by go_num, by omega, below_drews HBP.out _⟩
             case measure => first | (simp [intOf]; done) | (simp [intOf]; omega)
           · have hlt' : ¬ (k : Int) < (P.length : Int) := by omega
             go_wp2
             go_ret
             exact ⟨rfl, below_step hbv HBP.out⟩
end Go.Proofs.YthiojkjcmhojoaaGreat
