/- Lemmas on the way, of several texts: ImplUp, ImplPath, ImplUp2. -/
import Derived.RangeFuncNested
import Derived.RangeFuncBound
import Derived.RangeFuncCalls
import Derived.RangeFuncLeaves
import Derived.RangeFuncBox
import Derived.Shelf.Abstract
import Derived.Shelf.RegionOpen
import Derived.WalkKit
import Derived.OwnWalkIn
import Derived.TacticsInMore
import Derived.LoopNIn
import Derived.LoopIn
import Derived.Maps.AppendAt
import Derived.Test.YtmophpbfaonfmacGrpI
import Derived.Test.YtmophpbfaonfmacGrpH
namespace Go.Proofs.Ytmophpbfaonfmac
open Go.ChangeShapes Go.WideShapes Go.ChangeAt Go.RowKit Go.Shelf
set_option maxRecDepth 100000
set_option linter.unusedVariables false
set_option linter.unusedSimpArgs false
attribute [local go_sem] Oper.semAt_some

/-- What a round must keep: all below n₀, and the box in which the tree lies. -/
def KpT (n₀ Bt : Nat) (t : TypeId) (W W' : World) : Prop := Below n₀ W W' ∧ ∀ v, Boxed W Bt t v → Boxed W' Bt t v
theorem kpT_t {n₀ Bt : Nat} {t : TypeId} {A B C : World} (h : KpT n₀ Bt t A B) (k : KpT n₀ Bt t B C) : KpT n₀ Bt t A C := ⟨h.1.trans k.1, fun v hv => k.2 v (h.2 v hv)⟩
theorem kpT_b {n₀ Bt : Nat} {t : TypeId} {w : World} (hn : n₀ ≤ w.heap.size) (hB : Bt < w.heap.size) (W : World) (l : Nat) (o o' : Obj) (hl : w.heap.size ≤ l) (h : W.heap[l]? = some o) (h1 : o.isCells = false) (h2 : o.isWalk = false) : KpT n₀ Bt t W (W.putObj l o') :=
  ⟨belowK_b hn W l o o' hl h h1 h2, fun v hv => hv.kept (grownBy_putObj' W l o') (fun e => by have e1 : Bt = l := Option.some.inj e; omega)⟩
set_option maxHeartbeats 2000000 in
theorem up1_in (F : Fence) (n : Nat) (hf : F.fn 119) (hro : F.round = none) (hn : 1 ≤ n) (l Bi Bt n₀ : Nat) (a : Option Addr) (cap : Nat) (ts : List Q4) (i : Int) (hw : PWell ts) (hl : ts.length ≤ 30) (i0 : 0 ≤ i) (i1 : i < ts.length) (J Jx : List Int → World → Prop)
    (hY : ∀ pre x W, J pre W → pre.length < (pathOf ts i).length → YieldAt F (n - 1) Try.prog l #[.int .i64 x] W fun e W' =>
      (e = .returned (.bool true) ∧ J (pre ++ [x]) W' ∧ KpT n₀ Bt 53 W W') ∨ (e = .returned (.bool false) ∧ Jx (pre ++ [x]) W'))
    (W : World) (hBi : Boxed W Bi 2 (.int .i64 i)) (hBt : Boxed W Bt 53 (.slice a ts.length cap)) (hq : Quad n₀ W a ts) (h0 : J [] W) :
    CallsIn F n Try.prog 119 #[.func (.yield l) #[] #[], .pointer (some ⟨Bi, 0, none⟩), .pointer (some ⟨Bt, 0, none⟩)] W fun e W' => (∃ v, e = .returned v) ∧
      ((∃ ys, ys = pathOf ts i ∧ J ys W') ∨ (∃ pre, pre <+: pathOf ts i ∧ Jx pre W')) := by
  have hci := hBi.cell
  have HW : Hid (PWell ts) := hw
  clear hw
  have hln : (ts.length : Int) ≤ 30 := by omega
  refine callsIn_of_wp Try.func119 rfl hf ?_ hro
  simp only [Try.ntmps119, List.size_toArray, List.length_cons, List.length_nil, Nat.reduceAdd, Nat.reduceSub, Array.replicate_succ, Array.replicate_zero, List.push_toArray, List.append_toArray, List.nil_append, List.cons_append]
  gi_wp2
  gi_loopw [4] (fun p wr => ∃ (pre : List Int) (c : Int), p = .int .i64 c ∧ -1 ≤ c ∧ c < ts.length ∧ Hid (pathOf ts i = pre ++ pathOf ts c) ∧ Boxed wr Bt 53 (.slice a ts.length cap) ∧ Quad n₀ wr a ts ∧ J pre wr)
    (fun p _ => (intOf p + 1).toNat)
  case atStart =>
    exact ⟨[], i, rfl, by omega, i1, rfl, hBt, hq, h0⟩
  case round =>
    clear hq hBt hci
    obtain ⟨pre, c, rfl, hc0, hc1, HP, hBt, hq, hJs⟩ := hrel
    by_cases hc : c = -1
    · subst hc
      have HE : Hid (pathOf ts i = pre) := by
        have h1 := HP.out
        rw [path_end (i := -1) (by omega), List.append_nil] at h1
        exact h1
      gi_wp2
      go_end0
      exact ⟨⟨_, rfl⟩, .inl ⟨pre, HE.out.symm, hJs⟩⟩
    · obtain ⟨k, rfl⟩ : ∃ k : Nat, c = k := ⟨c.toNat, by omega⟩
      have hlt : k < ts.length := by omega
      have hst := path_step HW.out (i := (k : Int)) (by omega) hc1
      have hpar := parent_in HW.out (i := (k : Int)) (by omega) hc1
      rw [parent_at hlt] at hst hpar
      obtain ⟨p, hp⟩ : ∃ p, ts[k].1 = p := ⟨_, rfl⟩
      have HX : Hid (ts[k].1 = p) := hp
      rw [hp] at hst hpar
      clear hp
      have HN : Hid (pathOf ts i = (pre ++ [(k : Int)]) ++ pathOf ts p) := by
        have h1 := HP.out
        rw [hst] at h1
        show pathOf ts i = _
        rw [h1, List.append_assoc]
        rfl
      have hlen : pre.length < (pathOf ts i).length := by rw [HN.out]; simp
      clear hst
      have hp0 := hpar.1
      have hp1 := hpar.2
      clear hpar
      have hcn : ((k : Int) == -1) = false := by simp
      obtain ⟨fn, tmps, assign, body, hy, hR⟩ := hY pre (k : Int) wr hJs hlen
      clear hlen
      gi_wp2
      refine hR.mono ?_
      rintro e W3 (⟨rfl, hJ3, hk3⟩ | ⟨rfl, hJx3⟩)
      · have hBt3 := hk3.2 _ hBt
        have hct := hBt3.cell
        have hq3 := hq.mono hk3.1
        obtain ⟨b, off, ha, hb, cc, _⟩ := hq3 k hlt
        subst ha
        rw [HX.out] at cc
        gi_wp2
        go_roundw
        case rel => exact ⟨pre ++ [(k : Int)], p, rfl, hp0, by omega, HN, hBt3, hq3, hJ3⟩
        case measure => simp [intOf]; omega
      · gi_wp2
        refine bodyPost_ret (results_none rfl _ _ _) rfl ?_
        exact ⟨⟨_, rfl⟩, .inr ⟨pre ++ [(k : Int)], ⟨pathOf ts p, HN.out.symm⟩, hJx3⟩⟩
theorem up_in (F : Fence) (n : Nat) (hf : F.fn 84) (hro : F.round = none) (a : Option Addr) (m cap : Nat) (i : Int) (w : World) :
    CallsIn F n Try.prog 84 #[.slice a m cap, .int .i64 i] w fun e w' => e = .returned (.func (.func 119) #[] #[.pointer (some ⟨w.heap.size + 1, 0, none⟩), .pointer (some ⟨w.heap.size, 0, none⟩)]) ∧ w' = (w.alloc (.cells #[.slice a m cap] 53)).alloc (.cells #[.int .i64 i] 2) := by
  refine callsIn_of_wp Try.func84 rfl hf ?_ hro
  simp only [Try.ntmps84, List.size_toArray, List.length_cons, List.length_nil, Nat.reduceAdd, Nat.reduceSub, Array.replicate_succ, Array.replicate_zero, List.push_toArray, List.append_toArray, List.nil_append, List.cons_append]
  gi_wp2
  go_ret
  exact ⟨rfl, rfl⟩
end Go.Proofs.Ytmophpbfaonfmac
namespace Go.Proofs.Ytmophpbfaonfmac
open Go.ChangeShapes Go.WideShapes Go.ChangeAt Go.RowKit Go.Shelf
set_option maxRecDepth 100000
set_option linter.unusedVariables false
set_option linter.unusedSimpArgs false
attribute [local go_sem] Oper.semAt_some

theorem boxed_same {W : World} {B : Nat} {t : TypeId} {u v : Value} (h : Boxed W B t u) (k : Boxed W B t v) : u = v := by
  have e := h.cell.symm.trans k.cell
  exact Option.some.inj e
theorem up_stops {w : World} (Bi Bt n₀ : Nat) (a : Option Addr) (cap : Nat) {ts : List Q4} (i : Int) (hw : PWell ts) (hl : ts.length ≤ 30) (i0 : 0 ≤ i) (i1 : i < ts.length) {n : Nat}
    (hBi : Boxed w Bi 2 (.int .i64 i)) (hBt : Boxed w Bt 53 (.slice a ts.length cap)) (hq : Quad n₀ w a ts) (hn₀ : n₀ ≤ w.heap.size) (hn : 1 ≤ n := by omega) :
    SeqStopsK Fence.wide n Try.prog 119 #[.pointer (some ⟨Bi, 0, none⟩), .pointer (some ⟨Bt, 0, none⟩)] (fun x : Int => #[Value.int .i64 x]) (KpT n₀ Bt 53) (fun ys => ys = pathOf ts i) (fun pre => pre <+: pathOf ts i) (pathOf ts i).length w := fun l J Jx W hW _ _ hY h0 =>
  up1_in Fence.wide n trivial rfl hn l Bi Bt n₀ a cap ts i hw hl i0 i1 J Jx hY W ((hW.block Bi hBi.lt).trans hBi) ((hW.block Bt hBt.lt).trans hBt) (hq.mono (hW.mono hn₀)) h0
set_option maxHeartbeats 4000000 in
theorem iPath_yes {w : World} {a : Option Addr} (cap : Nat) {ts : List Q4} (i : Int) (h : Quad w.heap.size w a ts) (hh : hasB ts i = true) :
    Calls Try.prog 33 #[.slice a ts.length cap, .int .i64 i] w (ListPost w (pathOf ts i)) := by
  obtain ⟨ht, i0, i1⟩ := has_tree hh
  have hw := ht.sound.well
  have hl := ht.l1
  clear ht
  have hpl : (pathOf ts i).length ≤ 30 := Nat.le_trans (path_length i1) hl
  obtain ⟨j0, hj, jz0, jz1, jz2⟩ := info_parts info_i64
  refine (callsIn_wide (n := 3)).1 ?_
  refine callsIn_of_wp_marks Try.func33 rfl trivial ?_ rfl
  simp only [Try.ntmps33, List.size_toArray, List.length_cons, List.length_nil, Nat.reduceAdd, Nat.reduceSub, Array.replicate_succ, Array.replicate_zero, List.push_toArray, List.append_toArray, List.nil_append, List.cons_append]
  have f1 : Fence.wide.fn 83 := trivial
  have f2 : Fence.wide.fn 84 := trivial
  gi_wp2_with (first
    | (gi_at_call 83; refine (callsIn_wide.2 (iClass_is cap hh h)).mono ?_; rintro e w2 ⟨rfl, hb2⟩)
    | (gi_at_call 84; refine (up_in Fence.wide _ trivial rfl a ts.length cap i _).mono ?_; rintro e w' ⟨rfl, rfl⟩))
  have zb2 := hb2.size
  have h2 : Quad w2.heap.size w2 a ts := h.here hb2
  have bO := Boxed.new w2 43 (.slice none 0 0)
  have bT := Boxed.new (w2.alloc (.cells #[.slice none 0 0] 43)) 53 (.slice a ts.length cap)
  have bI := Boxed.new ((w2.alloc (.cells #[.slice none 0 0] 43)).alloc (.cells #[.slice a ts.length cap] 53)) 2 (.int .i64 i)
  simp only [World.size_alloc] at bT bI
  have hB0 : Below w2.heap.size w2 (((w2.alloc (.cells #[.slice none 0 0] 43)).alloc (.cells #[.slice a ts.length cap] 53)).alloc (.cells #[.int .i64 i] 2)) := (((Below.refl _ w2).alloc (Nat.le_refl _) _).alloc (by simp) _).alloc (by simp <;> omega) _
  refine wpIn_rangeFunc_ownG rfl (by omega) (gf := 119) (lb := #[.pointer (some ⟨w2.heap.size + 1 + 1, 0, none⟩), .pointer (some ⟨w2.heap.size + 1, 0, none⟩)]) rfl trivial (enters_of Try.func119 (by kernel_rfl) rfl)
    (up_stops (w := ((w2.alloc (.cells #[.slice none 0 0] 43)).alloc (.cells #[.slice a ts.length cap] 53)).alloc (.cells #[.int .i64 i] 2)) (w2.heap.size + 1 + 1) (w2.heap.size + 1) w2.heap.size a cap i hw hl i0 i1 bI (bT.alloc _) (h2.mono hB0) (by simp <;> omega)) kpT_t (kpT_b (by simp <;> omega) (by simp <;> omega)) (Below.refl _ _) (fun _ => rfl)
    (fun pre W => (∃ v, Boxed W w2.heap.size 43 v ∧ W.ownsRow w2.heap.size 2 1 v pre.length (flatI pre) ∧ True) ∧ (Boxed W (w2.heap.size + 1) 53 (.slice a ts.length cap) ∧ Below w2.heap.size w2 W))
    (fun _ _ _ => False)
    (OwnFrom.and (Own.from (holdsRow_own w2.heap.size w2.heap.size 43 2 1 (fun pre : List Int => pre.length) (fun pre => flatI pre) (fun _ _ => True)) _) (OwnFrom.and (Own.from (boxed_own (w2.heap.size + 1) 53 (fun _ => .slice a ts.length cap)) _) (ownFrom_below (Nat.le_refl _) (by simp <;> omega))))
    (fun _ _ _ _ _ hs _ _ => hs)
    ⟨⟨_, (bO.alloc _).alloc _, World.ownsRow_nil _ _ _ _, trivial⟩, bT.alloc _, hB0⟩
    (fun x => { tmps := #[.slice a ts.length cap, .int .i64 i, undef, undef, .slice none 0 0, .pointer (some ⟨w2.heap.size, 0, none⟩), .int .i64 x, .slice a ts.length cap, .int .i64 i, .bool true, .bool false, .slice a ts.length cap, .int .i64 i, .func (.func 119) #[] #[.pointer (some ⟨w2.heap.size + 1 + 1, 0, none⟩), .pointer (some ⟨w2.heap.size + 1, 0, none⟩)], .int .i64 x, undef, undef, undef, undef, undef], defers := [] }) ?assign ?body ?done ?stop
  case assign =>
    intro l x W K hK
    gi_wp2
    exact hK
  case body =>
    rintro l pre x W ⟨⟨v, hv, hrow, _⟩, hbt, hB⟩ hlt
    have hc := hv.cell
    have hle : pre.length ≤ 30 := by omega
    clear hlt
    gi_wp2_with (gi_at_builtin; refine wpListIn_append_own _ rfl _ _ 43 rfl w2.heap.size 2 j0 (.int .i64 0) 1 8 Try.underlying43 hj jz0 jz1 jz2 rfl (by decide) _ _ _ rfl (hrow.alloc _) ⟨W.heap.size, 0, none⟩ 1 1 [.int .i64 x] rfl rfl (cell_one_new _ _ _) (by simp [Value.oneCell']) (by unfold maxLen; omega) (by omega) (by have := hB.size; simp; omega) ?_; intro v' w1 hown' hgrow _; obtain ⟨g', cap', rfl⟩ := ownsRow_succ hown'; obtain ⟨hv1, hv2, hr2, hk2, hb2'⟩ := hv.appended (by decide) hrow hB.size (Nat.le_refl _) hown' hgrow; have hbt1 := (hbt.alloc _).kept hgrow (hbt.not_row (by decide) hrow); have hc1 := hv1.cell; have hf1 := hv1.frozen)
    have hbt2 := hbt1.other (B' := w2.heap.size) (by omega) (.slice (some ⟨g', 0, none⟩) (pre.length + 1) cap')
    exact ⟨hk2.from _, ⟨hb2', fun u hu => (by have e : u = .slice a ts.length cap := boxed_same hu hbt; subst e; exact hbt2)⟩, ⟨_, hv2, by rw [flatI_append, List.length_append]; exact hr2, trivial⟩, hbt2, hB.trans hb2'⟩
  case done =>
    rintro D ys W hD rfl ⟨⟨v, hv, hrow, _⟩, hbt, hB⟩ hK
    have hc := hv.cell
    obtain ⟨av, cv, rfl⟩ := own_slice hrow
    gi_wp2
    refine ⟨by simp, .inl ⟨_, _, rfl, run_takeDeferred hK, ?_⟩⟩
    have hBD := hB.trans (belowK_b (w := w2) (Nat.le_refl _) W D _ (.deferred none) (by simp at hD; omega) hK rfl rfl)
    exact ⟨_, results_tmp rfl _ _ _, _, _, _, rfl, (own_ints (ownsRow_putObj hrow _ hK rfl)).lower zb2, hb2.trans (hBD.mono zb2)⟩
  case stop =>
    rintro D c pre W _ _ h _
    exact h.elim
theorem iPath_no {w : World} {a : Option Addr} (cap : Nat) {ts : List Q4} (i : Int) (h : Quad w.heap.size w a ts) (hh : hasB ts i = false) :
    Calls Try.prog 33 #[.slice a ts.length cap, .int .i64 i] w (ListPost w []) := by
  refine (callsIn_wide (n := 3)).1 ?_
  refine callsIn_of_wp_marks Try.func33 rfl trivial ?_ rfl
  simp only [Try.ntmps33, List.size_toArray, List.length_cons, List.length_nil, Nat.reduceAdd, Nat.reduceSub, Array.replicate_succ, Array.replicate_zero, List.push_toArray, List.append_toArray, List.nil_append, List.cons_append]
  have f1 : Fence.wide.fn 83 := trivial
  gi_wp2_with (first
    | (gi_at_call 83; refine (callsIn_wide.2 (iClass_is cap hh h)).mono ?_; rintro e w2 ⟨rfl, hb2⟩))
  exact ⟨_, results_tmp rfl _ _ _, _, _, _, rfl, iv_none _ _, hb2⟩
set_option maxHeartbeats 4000000 in
theorem iUnder1_any {w : World} {a : Option Addr} (cap : Nat) {ts : List Q4} (i top : Int) (h : Quad w.heap.size w a ts) (hw : PWell ts) (hl : ts.length ≤ 30) (i0 : 0 ≤ i) (i1 : i < ts.length) :
    Calls Try.prog 93 #[.slice a ts.length cap, .int .i64 i, .int .i64 top] w fun e w' => e = .returned (.bool ((pathOf ts i).contains top)) ∧ Below w.heap.size w w' := by
  refine (callsIn_wide (n := 3)).1 ?_
  refine callsIn_of_wp_marks Try.func93 rfl trivial ?_ rfl
  simp only [Try.ntmps93, List.size_toArray, List.length_cons, List.length_nil, Nat.reduceAdd, Nat.reduceSub, Array.replicate_succ, Array.replicate_zero, List.push_toArray, List.append_toArray, List.nil_append, List.cons_append]
  have f2 : Fence.wide.fn 84 := trivial
  gi_wp2_with (first
    | (gi_at_call 84; refine (up_in Fence.wide _ trivial rfl a ts.length cap i _).mono ?_; rintro e w' ⟨rfl, rfl⟩))
  have bP := Boxed.new w 2 (.int .i64 top)
  have bR := Boxed.new (w.alloc (.cells #[.int .i64 top] 2)) 4 (.bool false)
  have bT := Boxed.new ((w.alloc (.cells #[.int .i64 top] 2)).alloc (.cells #[.bool false] 4)) 53 (.slice a ts.length cap)
  have bI := Boxed.new (((w.alloc (.cells #[.int .i64 top] 2)).alloc (.cells #[.bool false] 4)).alloc (.cells #[.slice a ts.length cap] 53)) 2 (.int .i64 i)
  simp only [World.size_alloc] at bR bT bI
  have hB0 : Below w.heap.size w ((((w.alloc (.cells #[.int .i64 top] 2)).alloc (.cells #[.bool false] 4)).alloc (.cells #[.slice a ts.length cap] 53)).alloc (.cells #[.int .i64 i] 2)) := ((((Below.refl _ w).alloc (Nat.le_refl _) _).alloc (by simp) _).alloc (by simp <;> omega) _).alloc (by simp <;> omega) _
  refine wpIn_rangeFunc_ownG rfl (by omega) (gf := 119) (lb := #[.pointer (some ⟨w.heap.size + 1 + 1 + 1, 0, none⟩), .pointer (some ⟨w.heap.size + 1 + 1, 0, none⟩)]) rfl trivial (enters_of Try.func119 (by kernel_rfl) rfl)
    (up_stops (w := ((((w.alloc (.cells #[.int .i64 top] 2)).alloc (.cells #[.bool false] 4)).alloc (.cells #[.slice a ts.length cap] 53)).alloc (.cells #[.int .i64 i] 2))) (w.heap.size + 1 + 1 + 1) (w.heap.size + 1 + 1) w.heap.size a cap i hw hl i0 i1 bI (bT.alloc _) (h.mono hB0) (by simp <;> omega)) kpT_t (kpT_b (by simp <;> omega) (by simp <;> omega)) (Below.refl _ _) (fun _ => rfl)
    (fun pre W => ((∀ y ∈ pre, y ≠ top) ∧ Boxed W w.heap.size 2 (.int .i64 top) ∧ Boxed W (w.heap.size + 1) 4 (.bool false)) ∧ Below w.heap.size w W)
    (fun c pre W => (c = .ret ∧ top ∈ pre ∧ Boxed W (w.heap.size + 1) 4 (.bool true)) ∧ Below w.heap.size w W)
    (OwnFrom.and (OwnFrom.and (ownFrom_pure _ (fun pre : List Int => ∀ y ∈ pre, y ≠ top)) (OwnFrom.and (Own.from (boxed_own _ _ (fun _ => .int .i64 top)) _) (Own.from (boxed_own _ _ (fun _ => .bool false)) _))) (ownFrom_below (Nat.le_refl _) (by simp <;> omega)))
    (fun c => OwnFrom.and (OwnFrom.and (ownFrom_pure _ (fun _ : List Int => c = .ret)) (OwnFrom.and (ownFrom_pure _ (fun pre : List Int => top ∈ pre)) (Own.from (boxed_own _ _ (fun _ => .bool true)) _))) (ownFrom_below (Nat.le_refl _) (by simp <;> omega)))
    ⟨⟨by simp, ((bP.alloc _).alloc _).alloc _, (bR.alloc _).alloc _⟩, hB0⟩
    (fun x => { tmps := #[.slice a ts.length cap, .int .i64 i, .int .i64 top, undef, undef, .pointer (some ⟨w.heap.size, 0, none⟩), .pointer (some ⟨w.heap.size + 1, 0, none⟩), .int .i64 x, .slice a ts.length cap, .int .i64 i, .func (.func 119) #[] #[.pointer (some ⟨w.heap.size + 1 + 1 + 1, 0, none⟩), .pointer (some ⟨w.heap.size + 1 + 1, 0, none⟩)], .int .i64 x, undef, undef, undef], defers := [] }) ?assign ?body ?done ?stop
  case assign =>
    intro l x W K hK
    gi_wp2
    exact hK
  case body =>
    rintro l pre x W ⟨⟨hp, hbp, hbr⟩, hB⟩ _
    have hcw := hbp.cell
    have hcr := hbr.cell
    have hfr := hbr.frozen
    by_cases hx : x = top
    · subst hx
      gi_wp2
      exact ⟨(KeepsOthers.setCell _ _ _).from _, ⟨rfl, List.mem_append.2 (.inr (by simp)), hbr.set _⟩, hB.setCell (p := ⟨w.heap.size + 1, 0, none⟩) (by simp) _⟩
    · have hx' : (x == top) = false := by simp [hx]
      gi_wp2
      exact ⟨KeepsFrom.refl _ _, ⟨Below.refl _ _, fun _ h => h⟩, ⟨fun y hy => (List.mem_append.1 hy).elim (hp y) (fun e => by rw [List.mem_singleton.1 e]; exact hx), hbp, hbr⟩, hB⟩
  case done =>
    rintro D ys W hD rfl ⟨⟨hne, hbp, hbr⟩, hB⟩ hK
    have hcr := hbr.cell
    have hfr := hbr.frozen
    gi_wp2
    have hK' := (KeepsOthers.setCell W ⟨w.heap.size + 1, 0, none⟩ (.bool false)).same D _ hK rfl
    refine ⟨by simp, .inl ⟨_, _, rfl, run_takeDeferred hK', ?_⟩⟩
    have hc5 := cell_kept (World.cell?_setCell_same' W ⟨w.heap.size + 1, 0, none⟩ (.bool false) (by rw [hcr]; rfl)) (grownBy_putObj' _ D (.deferred none)) (fun r e => by cases e; exact ⟨_, hK', rfl⟩)
    have hn : (pathOf ts i).contains top = false := by
      have : ¬ top ∈ pathOf ts i := fun k => hne top k rfl
      simpa using this
    refine ⟨.bool false, ?_, by rw [hn], (hB.setCell (p := ⟨w.heap.size + 1, 0, none⟩) (by simp) _).trans (belowK_b (w := w) (Nat.le_refl _) _ D _ _ (by simp at hD; omega) hK' rfl rfl)⟩
    simp [results, Try.f93, go_sem, hc5]
  case stop =>
    rintro D c pre W hD hpre ⟨⟨rfl, hin, hbr⟩, hB⟩ hK
    have hcr := hbr.cell
    gi_wp2
    refine ⟨by simp, .inl ⟨_, _, rfl, run_takeDeferred hK, ?_⟩⟩
    have hc5 := cell_kept hcr (grownBy_putObj' _ D (.deferred none)) (fun r e => by cases e; exact ⟨_, hK, rfl⟩)
    have hy : (pathOf ts i).contains top = true := by
      have : top ∈ pathOf ts i := hpre.subset hin
      simpa using this
    refine ⟨.bool true, ?_, by rw [hy], hB.trans (belowK_b (w := w) (Nat.le_refl _) W D _ _ (by simp at hD; omega) hK rfl rfl)⟩
    simp [results, Try.f93, go_sem, hc5]
theorem iPath_any {w : World} {a : Option Addr} (cap : Nat) {ts : List Q4} (i : Int) (h : Quad w.heap.size w a ts) :
    Calls Try.prog 33 #[.slice a ts.length cap, .int .i64 i] w (ListPost w (pathTo ts i)) := by
  cases hh : hasB ts i
  · have e : pathTo ts i = [] := by unfold pathTo; rw [hh]; rfl
    rw [e]
    exact iPath_no cap i h hh
  · have e : pathTo ts i = pathOf ts i := by unfold pathTo; rw [hh]; rfl
    rw [e]
    exact iPath_yes cap i h hh
theorem iUnder1_is {w : World} {a : Option Addr} (cap : Nat) {ts : List Q4} {i top : Int} {f : Bool} (hf : (pathOf ts i).contains top = f) (h : Quad w.heap.size w a ts) (hw : PWell ts) (hl : ts.length ≤ 30) (i0 : 0 ≤ i) (i1 : i < ts.length) :
    Calls Try.prog 93 #[.slice a ts.length cap, .int .i64 i, .int .i64 top] w fun e w' => e = .returned (.bool f) ∧ Below w.heap.size w w' := by subst hf; exact iUnder1_any cap i top h hw hl i0 i1
set_option maxHeartbeats 1000000 in
theorem iUnder_any {w : World} {a : Option Addr} (cap : Nat) {ts : List Q4} (i : Int) (h : Quad w.heap.size w a ts) :
    Calls Try.prog 39 #[.slice a ts.length cap, .int .i64 i] w (ListPost w (underOf ts i)) := by
  obtain ⟨j0, hj, jz0, jz1, jz2⟩ := info_parts info_i64
  cases hh : hasB ts i
  · have HP : Hid (underOf ts i = []) := by unfold underOf; rw [hh]; rfl
    rw [HP.out]
    go_enter Try.func39, Try.ntmps39
    go_wp2_with (first | (go_at_call 83; refine (iClass_is cap hh h).mono ?_; rintro e w2 ⟨rfl, hb2⟩))
    go_ret
    exact ⟨_, _, _, rfl, iv_none _ _, hb2⟩
  · obtain ⟨ht, i0, i1⟩ := has_tree hh
    have HW : Hid (PWell ts) := ht.sound.well
    have hl := ht.l1
    have hln : (ts.length : Int) ≤ 30 := by omega
    clear ht
    have HP : Hid (underOf ts i = underTo ts i ts.length) := by show (if hasB ts i = true then _ else _) = _; rw [if_pos hh]
    rw [HP.out]
    go_enter Try.func39, Try.ntmps39
    go_wp2_with (first | (go_at_call 83; refine (iClass_is cap hh h).mono ?_; rintro e w2 ⟨rfl, hb2⟩))
    go_loopw [5, 13] (fun v s wr => ∃ k : Nat, s = .int .i64 k ∧ k ≤ ts.length ∧ wr.ownsRow w.heap.size 2 1 v (underTo ts i k).length (flatI (underTo ts i k)) ∧ Below w.heap.size w wr) (fun _ s _ => ts.length - (intOf s).toNat)
    case atStart => exact ⟨0, rfl, by omega, World.ownsRow_nil _ _ _ _, hb2⟩
    case round =>
      obtain ⟨k, rfl, hk, hown, hbw⟩ := hrel
      have zb := hbw.size
      by_cases hlt : k < ts.length
      · have hlt' : (k : Int) < (ts.length : Int) := by omega
        have HL : Hid ((underTo ts i k).length ≤ 30) := Nat.le_trans (under_length ts i k) (by omega)
        cases hf : (pathOf ts (k : Int)).contains i
        · have HN : Hid (underTo ts i (k + 1) = underTo ts i k) := under_no hf
          have hu := iUnder1_is cap hf ((h.mono hbw).up zb) HW.out hl (by omega) (by omega)
          clear hf
          go_wp2_with (first
            | (go_at_call 93; refine hu.mono ?_; clear hu; rintro e w3 ⟨rfl, hb3⟩; have hbw3 := hbw.trans (hb3.mono zb); have hown3 := row_next hown hb3))
          go_roundw
          case rel => exact ⟨k + 1, by go_num, by omega, by rw [HN.out]; exact hown3, hbw3⟩
          case measure => first | (simp [intOf]; done) | (simp [intOf]; omega)
        · have HN : Hid (underTo ts i (k + 1) = underTo ts i k ++ [(k : Int)]) := under_yes hf
          have hu := iUnder1_is cap hf ((h.mono hbw).up zb) HW.out hl (by omega) (by omega)
          clear hf
          go_wp2_with (first
            | (go_at_call 93; refine hu.mono ?_; clear hu; rintro e w3 ⟨rfl, hb3⟩; have hbw3 := hbw.trans (hb3.mono zb); have hown3 := row_next hown hb3; have zb3 := hbw3.size)
            | (at_builtin; refine wpList_append_own _ rfl _ _ 43 rfl w.heap.size 2 j0 _ 1 8 Try.underlying43 hj jz0 jz1 jz2 rfl (by decide) _ _ _ rfl (hown3.alloc _) ⟨w3.heap.size, 0, none⟩ 1 1 [.int .i64 (k : Int)] rfl rfl ?c1 ?c2 ?c3 ?c4 ?c5 ?c6; rotate_left 5; intro v' w' hown' hgr hnil; have hb4 := below_app hbw3 hgr (fun g hg => (hown3.lt g hg).1)))
          case c1 => exact one_news (by go_simp)
          case c2 => exact flatI_one [(k : Int)]
          case c3 => have := HL.out; unfold maxLen; omega
          case c4 => have := HL.out; omega
          case c5 => simp; omega
          go_roundw
          case rel => exact ⟨k + 1, by go_num, by omega, by rw [HN.out, flatI_append, List.length_append]; exact hown', hb4⟩
          case measure => first | (simp [intOf]; done) | (simp [intOf]; omega)
      · have e : k = ts.length := by omega
        subst e
        obtain ⟨av, cv, rfl⟩ := own_slice hown
        have hiv := own_ints hown
        go_wp2
        go_ret
        exact ⟨_, _, _, rfl, hiv, hbw⟩
end Go.Proofs.Ytmophpbfaonfmac
namespace Go.Proofs.Ytmophpbfaonfmac
open Go.ChangeShapes Go.WideShapes Go.ChangeAt Go.RowKit Go.Shelf
set_option maxRecDepth 100000
set_option linter.unusedVariables false
set_option linter.unusedSimpArgs false
attribute [local go_sem] Oper.semAt_some

/-- The number of a class. -/
abbrev Idx (m : Nat) := { x : Int // 0 ≤ x ∧ x < (m : Int) }
def vals {m : Nat} (l : List (Idx m)) : List Int := l.map (·.1)
theorem vals_snoc {m : Nat} (l : List (Idx m)) (x : Idx m) : vals (l ++ [x]) = vals l ++ [x.1] := by simp [vals]
set_option maxHeartbeats 2000000 in
theorem up2_in (F : Fence) (n : Nat) (hf : F.fn 119) (hro : F.round = none) (hn : 1 ≤ n) (l Bi Bt n₀ : Nat) {Kp : World → World → Prop} (a : Option Addr) (cap : Nat) (ts : List Q4) (i : Int) (hw : PWell ts) (hl : ts.length ≤ 30) (i0 : 0 ≤ i) (i1 : i < ts.length) (J Jx : List (Idx ts.length) → World → Prop) (hKp : ∀ {W W' : World}, Kp W W' → (∀ v, Boxed W Bt 53 v → Boxed W' Bt 53 v) ∧ (Quad n₀ W a ts → Quad n₀ W' a ts))
    (hY : ∀ pre x W, J pre W → pre.length < (pathOf ts i).length → YieldAt F (n - 1) Try.prog l #[.int .i64 x.1] W fun e W' =>
      (e = .returned (.bool true) ∧ J (pre ++ [x]) W' ∧ Kp W W') ∨ (e = .returned (.bool false) ∧ Jx (pre ++ [x]) W'))
    (W : World) (hBi : Boxed W Bi 2 (.int .i64 i)) (hBt : Boxed W Bt 53 (.slice a ts.length cap)) (hq : Quad n₀ W a ts) (h0 : J [] W) :
    CallsIn F n Try.prog 119 #[.func (.yield l) #[] #[], .pointer (some ⟨Bi, 0, none⟩), .pointer (some ⟨Bt, 0, none⟩)] W fun e W' => (∃ v, e = .returned v) ∧
      ((∃ ys, vals ys = pathOf ts i ∧ J ys W') ∨ (∃ pre, vals pre <+: pathOf ts i ∧ Jx pre W')) := by
  have hci := hBi.cell
  have HW : Hid (PWell ts) := hw
  clear hw
  have hln : (ts.length : Int) ≤ 30 := by omega
  refine callsIn_of_wp Try.func119 rfl hf ?_ hro
  simp only [Try.ntmps119, List.size_toArray, List.length_cons, List.length_nil, Nat.reduceAdd, Nat.reduceSub, Array.replicate_succ, Array.replicate_zero, List.push_toArray, List.append_toArray, List.nil_append, List.cons_append]
  gi_wp2
  gi_loopw [4] (fun p wr => ∃ (pre : List (Idx ts.length)) (c : Int), p = .int .i64 c ∧ -1 ≤ c ∧ c < ts.length ∧ Hid (pathOf ts i = vals pre ++ pathOf ts c) ∧ Boxed wr Bt 53 (.slice a ts.length cap) ∧ Quad n₀ wr a ts ∧ J pre wr)
    (fun p _ => (intOf p + 1).toNat)
  case atStart =>
    exact ⟨[], i, rfl, by omega, i1, rfl, hBt, hq, h0⟩
  case round =>
    clear hq hBt hci
    obtain ⟨pre, c, rfl, hc0, hc1, HP, hBt, hq, hJs⟩ := hrel
    by_cases hc : c = -1
    · subst hc
      have HE : Hid (pathOf ts i = vals pre) := by
        have h1 := HP.out
        rw [path_end (i := -1) (by omega), List.append_nil] at h1
        exact h1
      gi_wp2
      go_end0
      exact ⟨⟨_, rfl⟩, .inl ⟨pre, HE.out.symm, hJs⟩⟩
    · obtain ⟨k, rfl⟩ : ∃ k : Nat, c = k := ⟨c.toNat, by omega⟩
      have hlt : k < ts.length := by omega
      have hck : 0 ≤ (k : Int) ∧ (k : Int) < (ts.length : Int) := ⟨by omega, by omega⟩
      have hst := path_step HW.out (i := (k : Int)) (by omega) hc1
      have hpar := parent_in HW.out (i := (k : Int)) (by omega) hc1
      rw [parent_at hlt] at hst hpar
      obtain ⟨p, hp⟩ : ∃ p, ts[k].1 = p := ⟨_, rfl⟩
      have HX : Hid (ts[k].1 = p) := hp
      rw [hp] at hst hpar
      clear hp
      have HN : Hid (pathOf ts i = vals (pre ++ [⟨(k : Int), hck⟩]) ++ pathOf ts p) := by
        have h1 := HP.out
        rw [hst] at h1
        show pathOf ts i = _
        rw [h1, vals_snoc, List.append_assoc]
        rfl
      have hlen : pre.length < (pathOf ts i).length := by rw [HN.out]; simp [vals]
      clear hst
      have hp0 := hpar.1
      have hp1 := hpar.2
      clear hpar
      have hcn : ((k : Int) == -1) = false := by simp
      obtain ⟨fn, tmps, assign, body, hy, hR⟩ := hY pre ⟨(k : Int), hck⟩ wr hJs hlen
      clear hlen
      gi_wp2
      refine hR.mono ?_
      rintro e W3 (⟨rfl, hJ3, hk3⟩ | ⟨rfl, hJx3⟩)
      · have hBt3 := (hKp hk3).1 _ hBt
        have hct := hBt3.cell
        have hq3 := (hKp hk3).2 hq
        obtain ⟨b, off, ha, hb, cc, _⟩ := hq3 k hlt
        subst ha
        rw [HX.out] at cc
        gi_wp2
        go_roundw
        case rel => exact ⟨pre ++ [⟨(k : Int), hck⟩], p, rfl, hp0, by omega, HN, hBt3, hq3, hJ3⟩
        case measure => simp [intOf]; omega
      · gi_wp2
        refine bodyPost_ret (results_none rfl _ _ _) rfl ?_
        exact ⟨⟨_, rfl⟩,   .inr ⟨pre ++ [⟨(k : Int), hck⟩], ⟨pathOf ts p, HN.out.symm⟩, hJx3⟩⟩
theorem up2_stops {w : World} (Bi Bt n₀ : Nat) (a : Option Addr) (cap : Nat) {ts : List Q4} (i : Int) (hw : PWell ts) (hl : ts.length ≤ 30) (i0 : 0 ≤ i) (i1 : i < ts.length) {Kp : World → World → Prop} (hKp : ∀ {W W' : World}, Kp W W' → (∀ v, Boxed W Bt 53 v → Boxed W' Bt 53 v) ∧ (Quad n₀ W a ts → Quad n₀ W' a ts)) {n : Nat}
    (hBi : Boxed w Bi 2 (.int .i64 i)) (hBt : Boxed w Bt 53 (.slice a ts.length cap)) (hq : Quad n₀ w a ts) (hn₀ : n₀ ≤ w.heap.size) (hn : 1 ≤ n := by omega) :
    SeqStopsK Fence.wide n Try.prog 119 #[.pointer (some ⟨Bi, 0, none⟩), .pointer (some ⟨Bt, 0, none⟩)] (fun x : Idx ts.length => #[Value.int .i64 x.1]) Kp (fun ys => vals ys = pathOf ts i) (fun pre => vals pre <+: pathOf ts i) (pathOf ts i).length w := fun l J Jx W hW _ _ hY h0 =>
  up2_in Fence.wide n trivial rfl hn l Bi Bt n₀ a cap ts i hw hl i0 i1 J Jx hKp hY W ((hW.block Bi hBi.lt).trans hBi) ((hW.block Bt hBt.lt).trans hBt) (hq.mono (hW.mono hn₀)) h0
end Go.Proofs.Ytmophpbfaonfmac
