/- What impl.Path, isUnder and Under answer. -/
import Derived.Test.YtbpmnldlgmpfcacImplUp
namespace Go.Proofs.Ytbpmnldlgmpfcac
open Go.ChangeShapes Go.WideShapes Go.ChangeAt Go.RowKit Go.Shelf
set_option maxRecDepth 100000
set_option linter.unusedVariables false
set_option linter.unusedSimpArgs false
attribute [local go_sem] Oper.semAt_some

theorem boxed_same {W : World} {B : Nat} {t : TypeId} {u v : Value} (h : Boxed W B t u) (k : Boxed W B t v) : u = v := by
  have e := h.cell.symm.trans k.cell
  exact Option.some.inj e
theorem up_stops {w : World} (Bi Bt n₀ : Nat) (a : Option Addr) (cap : Nat) {ts : List Q4} (i : Int) (hw : PWell ts) (hl : ts.length ≤ 30) (i0 : 0 ≤ i) (i1 : i < ts.length) {n : Nat}
    (hBi : Boxed w Bi 2 (.int .i64 i)) (hBt : Boxed w Bt 53 (.slice a ts.length cap)) (hq : Quad n₀ w a ts) (hn₀ : n₀ ≤ w.heap.size) (hn : 1 ≤ n := by omega) :
    SeqStopsK Fence.wide n Try.prog 98 #[.pointer (some ⟨Bi, 0, none⟩), .pointer (some ⟨Bt, 0, none⟩)] (fun x : Int => #[Value.int .i64 x]) (KpT n₀ Bt 53) (fun ys => ys = pathOf ts i) (fun pre => pre <+: pathOf ts i) (pathOf ts i).length w := fun l J Jx W hW _ _ hY h0 =>
  up1_in Fence.wide n trivial rfl hn l Bi Bt n₀ a cap ts i hw hl i0 i1 J Jx hY W ((hW.block Bi hBi.lt).trans hBi) ((hW.block Bt hBt.lt).trans hBt) (hq.mono (hW.mono hn₀)) h0
set_option maxHeartbeats 4000000 in
theorem iPath_yes {w : World} {a : Option Addr} (cap : Nat) {ts : List Q4} (i : Int) (h : Quad w.heap.size w a ts) (hh : hasB ts i = true) :
    Calls Try.prog 32 #[.slice a ts.length cap, .int .i64 i] w (ListPost w (pathOf ts i)) := by
  obtain ⟨ht, i0, i1⟩ := has_tree hh
  have hw := ht.sound.well
  have hl := ht.l1
  clear ht
  have hpl : (pathOf ts i).length ≤ 30 := Nat.le_trans (path_length i1) hl
  obtain ⟨j0, hj, jz0, jz1, jz2⟩ := info_parts info_i64
  refine (callsIn_wide (n := 3)).1 ?_
  refine callsIn_of_wp_marks Try.func32 rfl trivial ?_ rfl
  simp only [Try.ntmps32, List.size_toArray, List.length_cons, List.length_nil, Nat.reduceAdd, Nat.reduceSub, Array.replicate_succ, Array.replicate_zero, List.push_toArray, List.append_toArray, List.nil_append, List.cons_append]
  have f1 : Fence.wide.fn 75 := trivial
  have f2 : Fence.wide.fn 76 := trivial
  gi_wp2_with (first
    | (gi_at_call 75; refine (callsIn_wide.2 (iClass_is cap hh h)).mono ?_; rintro e w2 ⟨rfl, hb2⟩)
    | (gi_at_call 76; refine (up_in Fence.wide _ trivial rfl a ts.length cap i _).mono ?_; rintro e w' ⟨rfl, rfl⟩))
  have zb2 := hb2.size
  have h2 : Quad w2.heap.size w2 a ts := h.here hb2
  have bO := Boxed.new w2 43 (.slice none 0 0)
  have bT := Boxed.new (w2.alloc (.cells #[.slice none 0 0] 43)) 53 (.slice a ts.length cap)
  have bI := Boxed.new ((w2.alloc (.cells #[.slice none 0 0] 43)).alloc (.cells #[.slice a ts.length cap] 53)) 2 (.int .i64 i)
  simp only [World.size_alloc] at bT bI
  have hB0 : Below w2.heap.size w2 (((w2.alloc (.cells #[.slice none 0 0] 43)).alloc (.cells #[.slice a ts.length cap] 53)).alloc (.cells #[.int .i64 i] 2)) := (((Below.refl _ w2).alloc (Nat.le_refl _) _).alloc (by simp) _).alloc (by simp <;> omega) _
  refine wpIn_rangeFunc_ownG rfl (by omega) (gf := 98) (lb := #[.pointer (some ⟨w2.heap.size + 1 + 1, 0, none⟩), .pointer (some ⟨w2.heap.size + 1, 0, none⟩)]) rfl trivial (enters_of Try.func98 (by kernel_rfl) rfl)
    (up_stops (w := ((w2.alloc (.cells #[.slice none 0 0] 43)).alloc (.cells #[.slice a ts.length cap] 53)).alloc (.cells #[.int .i64 i] 2)) (w2.heap.size + 1 + 1) (w2.heap.size + 1) w2.heap.size a cap i hw hl i0 i1 bI (bT.alloc _) (h2.mono hB0) (by simp <;> omega)) kpT_t (kpT_b (by simp <;> omega) (by simp <;> omega)) (Below.refl _ _) (fun _ => rfl)
    (fun pre W => (∃ v, Boxed W w2.heap.size 43 v ∧ W.ownsRow w2.heap.size 2 1 v pre.length (flatI pre) ∧ True) ∧ (Boxed W (w2.heap.size + 1) 53 (.slice a ts.length cap) ∧ Below w2.heap.size w2 W))
    (fun _ _ _ => False)
    (OwnFrom.and (Own.from (holdsRow_own w2.heap.size w2.heap.size 43 2 1 (fun pre : List Int => pre.length) (fun pre => flatI pre) (fun _ _ => True)) _) (OwnFrom.and (Own.from (boxed_own (w2.heap.size + 1) 53 (fun _ => .slice a ts.length cap)) _) (ownFrom_below (Nat.le_refl _) (by simp <;> omega))))
    (fun _ _ _ _ _ hs _ _ => hs)
    ⟨⟨_, (bO.alloc _).alloc _, World.ownsRow_nil _ _ _ _, trivial⟩, bT.alloc _, hB0⟩
    (fun x => { tmps := #[.slice a ts.length cap, .int .i64 i, undef, undef, .slice none 0 0, .pointer (some ⟨w2.heap.size, 0, none⟩), .int .i64 x, .slice a ts.length cap, .int .i64 i, .bool true, .bool false, .slice a ts.length cap, .int .i64 i, .func (.func 98) #[] #[.pointer (some ⟨w2.heap.size + 1 + 1, 0, none⟩), .pointer (some ⟨w2.heap.size + 1, 0, none⟩)], .int .i64 x, undef, undef, undef, undef, undef], defers := [] }) ?assign ?body ?done ?stop
  case assign =>
    intro l x W K hK
    gi_wp2
    exact hK
  case body =>
    rintro l pre x W ⟨⟨v, hv, hrow, _⟩, hbt, hB⟩ hlt
    have hc := hv.cell
    have hle : pre.length ≤ 30 := by omega
    clear hlt
    gi_wp2_with (gi_at_builtin; refine wpListIn_append_own _ rfl _ _ 43 rfl w2.heap.size 2 j0 (.int .i64 0) 1 8 Try.underlying43 hj jz0 jz1 jz2 rfl (by decide) _ _ _ rfl (hrow.alloc _) ⟨W.heap.size, 0, none⟩ 1 1 [.int .i64 x] rfl rfl (cell_one_new _ _ _) (by simp [Value.oneCell']) (by unfold maxLen; omega) (by omega) (by have := hB.size; simp; omega) ?_; intro v' w1 hown' hgrow _; obtain ⟨g', cap', rfl⟩ := ownsRow_succ hown'; obtain ⟨hv1, hv2, hr2, hk2, hb2'⟩ := hv.appended (by decide) hrow hB.size (Nat.le_refl _) hown' hgrow; have hbt1 := (hbt.alloc _).kept hgrow (hbt.not_row (by decide) hrow); have hc1 := hv1.cell; have hf1 := hv1.frozen)
    have hbt2 := hbt1.other (B' := w2.heap.size) (by omega) (.slice (some ⟨g', 0, none⟩) (pre.length + 1) cap')
    exact ⟨hk2.from _, ⟨hb2', fun u hu => (by have e : u = .slice a ts.length cap := boxed_same hu hbt; subst e; exact hbt2)⟩, ⟨_, hv2, by rw [flatI_append, List.length_append]; exact hr2, trivial⟩, hbt2, hB.trans hb2'⟩
  case done =>
    rintro D ys W hD rfl ⟨⟨v, hv, hrow, _⟩, hbt, hB⟩ hK
    have hc := hv.cell
    obtain ⟨av, cv, rfl⟩ := own_slice hrow
    gi_wp2
    refine ⟨by simp, .inl ⟨_, _, rfl, run_takeDeferred hK, ?_⟩⟩
    have hBD := hB.trans (belowK_b (w := w2) (Nat.le_refl _) W D _ (.deferred none) (by simp at hD; omega) hK rfl rfl)
    exact ⟨_, results_tmp rfl _ _ _, _, _, _, rfl, (own_ints (ownsRow_putObj hrow _ hK rfl)).lower zb2, hb2.trans (hBD.mono zb2)⟩
  case stop =>
    rintro D c pre W _ _ h _
    exact h.elim
theorem iPath_no {w : World} {a : Option Addr} (cap : Nat) {ts : List Q4} (i : Int) (h : Quad w.heap.size w a ts) (hh : hasB ts i = false) :
    Calls Try.prog 32 #[.slice a ts.length cap, .int .i64 i] w (ListPost w []) := by
  refine (callsIn_wide (n := 3)).1 ?_
  refine callsIn_of_wp_marks Try.func32 rfl trivial ?_ rfl
  simp only [Try.ntmps32, List.size_toArray, List.length_cons, List.length_nil, Nat.reduceAdd, Nat.reduceSub, Array.replicate_succ, Array.replicate_zero, List.push_toArray, List.append_toArray, List.nil_append, List.cons_append]
  have f1 : Fence.wide.fn 75 := trivial
  gi_wp2_with (first
    | (gi_at_call 75; refine (callsIn_wide.2 (iClass_is cap hh h)).mono ?_; rintro e w2 ⟨rfl, hb2⟩))
  exact ⟨_, results_tmp rfl _ _ _, _, _, _, rfl, iv_none _ _, hb2⟩
set_option maxHeartbeats 4000000 in
theorem iUnder1_any {w : World} {a : Option Addr} (cap : Nat) {ts : List Q4} (i top : Int) (h : Quad w.heap.size w a ts) (hw : PWell ts) (hl : ts.length ≤ 30) (i0 : 0 ≤ i) (i1 : i < ts.length) :
    Calls Try.prog 85 #[.slice a ts.length cap, .int .i64 i, .int .i64 top] w fun e w' => e = .returned (.bool ((pathOf ts i).contains top)) ∧ Below w.heap.size w w' := by
  refine (callsIn_wide (n := 3)).1 ?_
  refine callsIn_of_wp_marks Try.func85 rfl trivial ?_ rfl
  simp only [Try.ntmps85, List.size_toArray, List.length_cons, List.length_nil, Nat.reduceAdd, Nat.reduceSub, Array.replicate_succ, Array.replicate_zero, List.push_toArray, List.append_toArray, List.nil_append, List.cons_append]
  have f2 : Fence.wide.fn 76 := trivial
  gi_wp2_with (first
    | (gi_at_call 76; refine (up_in Fence.wide _ trivial rfl a ts.length cap i _).mono ?_; rintro e w' ⟨rfl, rfl⟩))
  have bP := Boxed.new w 2 (.int .i64 top)
  have bR := Boxed.new (w.alloc (.cells #[.int .i64 top] 2)) 4 (.bool false)
  have bT := Boxed.new ((w.alloc (.cells #[.int .i64 top] 2)).alloc (.cells #[.bool false] 4)) 53 (.slice a ts.length cap)
  have bI := Boxed.new (((w.alloc (.cells #[.int .i64 top] 2)).alloc (.cells #[.bool false] 4)).alloc (.cells #[.slice a ts.length cap] 53)) 2 (.int .i64 i)
  simp only [World.size_alloc] at bR bT bI
  have hB0 : Below w.heap.size w ((((w.alloc (.cells #[.int .i64 top] 2)).alloc (.cells #[.bool false] 4)).alloc (.cells #[.slice a ts.length cap] 53)).alloc (.cells #[.int .i64 i] 2)) := ((((Below.refl _ w).alloc (Nat.le_refl _) _).alloc (by simp) _).alloc (by simp <;> omega) _).alloc (by simp <;> omega) _
  refine wpIn_rangeFunc_ownG rfl (by omega) (gf := 98) (lb := #[.pointer (some ⟨w.heap.size + 1 + 1 + 1, 0, none⟩), .pointer (some ⟨w.heap.size + 1 + 1, 0, none⟩)]) rfl trivial (enters_of Try.func98 (by kernel_rfl) rfl)
    (up_stops (w := ((((w.alloc (.cells #[.int .i64 top] 2)).alloc (.cells #[.bool false] 4)).alloc (.cells #[.slice a ts.length cap] 53)).alloc (.cells #[.int .i64 i] 2))) (w.heap.size + 1 + 1 + 1) (w.heap.size + 1 + 1) w.heap.size a cap i hw hl i0 i1 bI (bT.alloc _) (h.mono hB0) (by simp <;> omega)) kpT_t (kpT_b (by simp <;> omega) (by simp <;> omega)) (Below.refl _ _) (fun _ => rfl)
    (fun pre W => ((∀ y ∈ pre, y ≠ top) ∧ Boxed W w.heap.size 2 (.int .i64 top) ∧ Boxed W (w.heap.size + 1) 4 (.bool false)) ∧ Below w.heap.size w W)
    (fun c pre W => (c = .ret ∧ top ∈ pre ∧ Boxed W (w.heap.size + 1) 4 (.bool true)) ∧ Below w.heap.size w W)
    (OwnFrom.and (OwnFrom.and (ownFrom_pure _ (fun pre : List Int => ∀ y ∈ pre, y ≠ top)) (OwnFrom.and (Own.from (boxed_own _ _ (fun _ => .int .i64 top)) _) (Own.from (boxed_own _ _ (fun _ => .bool false)) _))) (ownFrom_below (Nat.le_refl _) (by simp <;> omega)))
    (fun c => OwnFrom.and (OwnFrom.and (ownFrom_pure _ (fun _ : List Int => c = .ret)) (OwnFrom.and (ownFrom_pure _ (fun pre : List Int => top ∈ pre)) (Own.from (boxed_own _ _ (fun _ => .bool true)) _))) (ownFrom_below (Nat.le_refl _) (by simp <;> omega)))
    ⟨⟨by simp, ((bP.alloc _).alloc _).alloc _, (bR.alloc _).alloc _⟩, hB0⟩
    (fun x => { tmps := #[.slice a ts.length cap, .int .i64 i, .int .i64 top, undef, undef, .pointer (some ⟨w.heap.size, 0, none⟩), .pointer (some ⟨w.heap.size + 1, 0, none⟩), .int .i64 x, .slice a ts.length cap, .int .i64 i, .func (.func 98) #[] #[.pointer (some ⟨w.heap.size + 1 + 1 + 1, 0, none⟩), .pointer (some ⟨w.heap.size + 1 + 1, 0, none⟩)], .int .i64 x, undef, undef, undef], defers := [] }) ?assign ?body ?done ?stop
  case assign =>
    intro l x W K hK
    gi_wp2
    exact hK
  case body =>
    rintro l pre x W ⟨⟨hp, hbp, hbr⟩, hB⟩ _
    have hcw := hbp.cell
    have hcr := hbr.cell
    have hfr := hbr.frozen
    by_cases hx : x = top
    · subst hx
      gi_wp2
      exact ⟨(KeepsOthers.setCell _ _ _).from _, ⟨rfl, List.mem_append.2 (.inr (by simp)), hbr.set _⟩, hB.setCell (p := ⟨w.heap.size + 1, 0, none⟩) (by simp) _⟩
    · have hx' : (x == top) = false := by simp [hx]
      gi_wp2
      exact ⟨KeepsFrom.refl _ _, ⟨Below.refl _ _, fun _ h => h⟩, ⟨fun y hy => (List.mem_append.1 hy).elim (hp y) (fun e => by rw [List.mem_singleton.1 e]; exact hx), hbp, hbr⟩, hB⟩
  case done =>
    rintro D ys W hD rfl ⟨⟨hne, hbp, hbr⟩, hB⟩ hK
    have hcr := hbr.cell
    have hfr := hbr.frozen
    gi_wp2
    have hK' := (KeepsOthers.setCell W ⟨w.heap.size + 1, 0, none⟩ (.bool false)).same D _ hK rfl
    refine ⟨by simp, .inl ⟨_, _, rfl, run_takeDeferred hK', ?_⟩⟩
    have hc5 := cell_kept (World.cell?_setCell_same' W ⟨w.heap.size + 1, 0, none⟩ (.bool false) (by rw [hcr]; rfl)) (grownBy_putObj' _ D (.deferred none)) (fun r e => by cases e; exact ⟨_, hK', rfl⟩)
    have hn : (pathOf ts i).contains top = false := by
      have : ¬ top ∈ pathOf ts i := fun k => hne top k rfl
      simpa using this
    refine ⟨.bool false, ?_, by rw [hn], (hB.setCell (p := ⟨w.heap.size + 1, 0, none⟩) (by simp) _).trans (belowK_b (w := w) (Nat.le_refl _) _ D _ _ (by simp at hD; omega) hK' rfl rfl)⟩
    simp [results, Try.f85, go_sem, hc5]
  case stop =>
    rintro D c pre W hD hpre ⟨⟨rfl, hin, hbr⟩, hB⟩ hK
    have hcr := hbr.cell
    gi_wp2
    refine ⟨by simp, .inl ⟨_, _, rfl, run_takeDeferred hK, ?_⟩⟩
    have hc5 := cell_kept hcr (grownBy_putObj' _ D (.deferred none)) (fun r e => by cases e; exact ⟨_, hK, rfl⟩)
    have hy : (pathOf ts i).contains top = true := by
      have : top ∈ pathOf ts i := hpre.subset hin
      simpa using this
    refine ⟨.bool true, ?_, by rw [hy], hB.trans (belowK_b (w := w) (Nat.le_refl _) W D _ _ (by simp at hD; omega) hK rfl rfl)⟩
    simp [results, Try.f85, go_sem, hc5]
theorem iPath_any {w : World} {a : Option Addr} (cap : Nat) {ts : List Q4} (i : Int) (h : Quad w.heap.size w a ts) :
    Calls Try.prog 32 #[.slice a ts.length cap, .int .i64 i] w (ListPost w (pathTo ts i)) := by
  cases hh : hasB ts i
  · have e : pathTo ts i = [] := by unfold pathTo; rw [hh]; rfl
    rw [e]
    exact iPath_no cap i h hh
  · have e : pathTo ts i = pathOf ts i := by unfold pathTo; rw [hh]; rfl
    rw [e]
    exact iPath_yes cap i h hh
theorem iUnder1_is {w : World} {a : Option Addr} (cap : Nat) {ts : List Q4} {i top : Int} {f : Bool} (hf : (pathOf ts i).contains top = f) (h : Quad w.heap.size w a ts) (hw : PWell ts) (hl : ts.length ≤ 30) (i0 : 0 ≤ i) (i1 : i < ts.length) :
    Calls Try.prog 85 #[.slice a ts.length cap, .int .i64 i, .int .i64 top] w fun e w' => e = .returned (.bool f) ∧ Below w.heap.size w w' := by subst hf; exact iUnder1_any cap i top h hw hl i0 i1
set_option maxHeartbeats 1000000 in
theorem iUnder_any {w : World} {a : Option Addr} (cap : Nat) {ts : List Q4} (i : Int) (h : Quad w.heap.size w a ts) :
    Calls Try.prog 38 #[.slice a ts.length cap, .int .i64 i] w (ListPost w (underOf ts i)) := by
  obtain ⟨j0, hj, jz0, jz1, jz2⟩ := info_parts info_i64
  cases hh : hasB ts i
  · have HP : Hid (underOf ts i = []) := by unfold underOf; rw [hh]; rfl
    rw [HP.out]
    go_enter Try.func38, Try.ntmps38
    go_wp2_with (first | (go_at_call 75; refine (iClass_is cap hh h).mono ?_; rintro e w2 ⟨rfl, hb2⟩))
    go_ret
    exact ⟨_, _, _, rfl, iv_none _ _, hb2⟩
  · obtain ⟨ht, i0, i1⟩ := has_tree hh
    have HW : Hid (PWell ts) := ht.sound.well
    have hl := ht.l1
    have hln : (ts.length : Int) ≤ 30 := by omega
    clear ht
    have HP : Hid (underOf ts i = underTo ts i ts.length) := by show (if hasB ts i = true then _ else _) = _; rw [if_pos hh]
    rw [HP.out]
    go_enter Try.func38, Try.ntmps38
    go_wp2_with (first | (go_at_call 75; refine (iClass_is cap hh h).mono ?_; rintro e w2 ⟨rfl, hb2⟩))
    go_loopw [5, 13] (fun v s wr => ∃ k : Nat, s = .int .i64 k ∧ k ≤ ts.length ∧ wr.ownsRow w.heap.size 2 1 v (underTo ts i k).length (flatI (underTo ts i k)) ∧ Below w.heap.size w wr) (fun _ s _ => ts.length - (intOf s).toNat)
    case atStart => exact ⟨0, rfl, by omega, World.ownsRow_nil _ _ _ _, hb2⟩
    case round =>
      obtain ⟨k, rfl, hk, hown, hbw⟩ := hrel
      have zb := hbw.size
      by_cases hlt : k < ts.length
      · have hlt' : (k : Int) < (ts.length : Int) := by omega
        have HL : Hid ((underTo ts i k).length ≤ 30) := Nat.le_trans (under_length ts i k) (by omega)
        cases hf : (pathOf ts (k : Int)).contains i
        · have HN : Hid (underTo ts i (k + 1) = underTo ts i k) := under_no hf
          have hu := iUnder1_is cap hf ((h.mono hbw).up zb) HW.out hl (by omega) (by omega)
          clear hf
          go_wp2_with (first
            | (go_at_call 85; refine hu.mono ?_; clear hu; rintro e w3 ⟨rfl, hb3⟩; have hbw3 := hbw.trans (hb3.mono zb); have hown3 := row_next hown hb3))
          go_roundw
          case rel => exact ⟨k + 1, by go_num, by omega, by rw [HN.out]; exact hown3, hbw3⟩
          case measure => first | (simp [intOf]; done) | (simp [intOf]; omega)
        · have HN : Hid (underTo ts i (k + 1) = underTo ts i k ++ [(k : Int)]) := under_yes hf
          have hu := iUnder1_is cap hf ((h.mono hbw).up zb) HW.out hl (by omega) (by omega)
          clear hf
          go_wp2_with (first
            | (go_at_call 85; refine hu.mono ?_; clear hu; rintro e w3 ⟨rfl, hb3⟩; have hbw3 := hbw.trans (hb3.mono zb); have hown3 := row_next hown hb3; have zb3 := hbw3.size)
            | (at_builtin; refine wpList_append_own _ rfl _ _ 43 rfl w.heap.size 2 j0 _ 1 8 Try.underlying43 hj jz0 jz1 jz2 rfl (by decide) _ _ _ rfl (hown3.alloc _) ⟨w3.heap.size, 0, none⟩ 1 1 [.int .i64 (k : Int)] rfl rfl ?c1 ?c2 ?c3 ?c4 ?c5 ?c6; rotate_left 5; intro v' w' hown' hgr hnil; have hb4 := below_app hbw3 hgr (fun g hg => (hown3.lt g hg).1)))
          case c1 => exact one_news (by go_simp)
          case c2 => exact flatI_one [(k : Int)]
          case c3 => have := HL.out; unfold maxLen; omega
          case c4 => have := HL.out; omega
          case c5 => simp; omega
          go_roundw
          case rel => exact ⟨k + 1, by go_num, by omega, by rw [HN.out, flatI_append, List.length_append]; exact hown', hb4⟩
          case measure => first | (simp [intOf]; done) | (simp [intOf]; omega)
      · have e : k = ts.length := by omega
        subst e
        obtain ⟨av, cv, rfl⟩ := own_slice hown
        have hiv := own_ints hown
        go_wp2
        go_ret
        exact ⟨_, _, _, rfl, hiv, hbw⟩
end Go.Proofs.Ytbpmnldlgmpfcac
