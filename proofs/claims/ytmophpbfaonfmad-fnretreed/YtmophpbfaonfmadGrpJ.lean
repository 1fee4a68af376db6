/- Lemmas on the way, of several texts: ImplUp, ImplPath, ImplUp2. -/
import Derived.RangeFuncNested
import Derived.RangeFuncBound
import Derived.RangeFuncCalls
import Derived.RangeFuncLeaves
import Derived.RangeFuncBox
import Derived.Shelf.Abstract
import Derived.Shelf.RegionOpen
import Derived.WalkKit
import Derived.OwnWalkIn
import Derived.TacticsInMore
import Derived.LoopNIn
import Derived.LoopIn
import Derived.Maps.AppendAt
import Derived.Test.YtmophpbfaonfmadGrpI
import Derived.Test.YtmophpbfaonfmadGrpH
namespace Go.Proofs.Ytmophpbfaonfmad
open Go.ChangeShapes Go.WideShapes Go.ChangeAt Go.RowKit Go.Shelf
set_option maxRecDepth 100000
set_option linter.unusedVariables false
set_option linter.unusedSimpArgs false
attribute [local go_sem] Oper.semAt_some

/-- What a round must keep: all below n₀, and the box in which the tree lies. -/
def KpT (n₀ Bt : Nat) (t : TypeId) (W W' : World) : Prop := Below n₀ W W' ∧ ∀ v, Boxed W Bt t v → Boxed W' Bt t v
theorem kpT_t {n₀ Bt : Nat} {t : TypeId} {A B C : World} (h : KpT n₀ Bt t A B) (k : KpT n₀ Bt t B C) : KpT n₀ Bt t A C := ⟨h.1.trans k.1, fun v hv => k.2 v (h.2 v hv)⟩
theorem kpT_b {n₀ Bt : Nat} {t : TypeId} {w : World} (hn : n₀ ≤ w.heap.size) (hB : Bt < w.heap.size) (W : World) (l : Nat) (o o' : Obj) (hl : w.heap.size ≤ l) (h : W.heap[l]? = some o) (h1 : o.isCells = false) (h2 : o.isWalk = false) : KpT n₀ Bt t W (W.putObj l o') :=
  ⟨belowK_b hn W l o o' hl h h1 h2, fun v hv => hv.kept (grownBy_putObj' W l o') (fun e => by have e1 : Bt = l := Option.some.inj e; omega)⟩
set_option maxHeartbeats 2000000 in
theorem up1_in (F : Fence) (n : Nat) (hf : F.fn 135) (hro : F.round = none) (hn : 1 ≤ n) (l Bi Bt n₀ : Nat) (a : Option Addr) (cap : Nat) (ts : List Q4) (i : Int) (hw : PWell ts) (hl : ts.length ≤ 30) (i0 : 0 ≤ i) (i1 : i < ts.length) (J Jx : List Int → World → Prop)
    (hY : ∀ pre x W, J pre W → pre.length < (pathOf ts i).length → YieldAt F (n - 1) Try.prog l #[.int .i64 x] W fun e W' =>
      (e = .returned (.bool true) ∧ J (pre ++ [x]) W' ∧ KpT n₀ Bt 24 W W') ∨ (e = .returned (.bool false) ∧ Jx (pre ++ [x]) W'))
    (W : World) (hBi : Boxed W Bi 2 (.int .i64 i)) (hBt : Boxed W Bt 24 (.slice a ts.length cap)) (hq : Quad n₀ W a ts) (h0 : J [] W) :
    CallsIn F n Try.prog 135 #[.func (.yield l) #[] #[], .pointer (some ⟨Bi, 0, none⟩), .pointer (some ⟨Bt, 0, none⟩)] W fun e W' => (∃ v, e = .returned v) ∧
      ((∃ ys, ys = pathOf ts i ∧ J ys W') ∨ (∃ pre, pre <+: pathOf ts i ∧ Jx pre W')) := by
  have hci := hBi.cell
  have HW : Hid (PWell ts) := hw
  clear hw
  have hln : (ts.length : Int) ≤ 30 := by omega
  refine callsIn_of_wp Try.func135 rfl hf ?_ hro
  simp only [Try.ntmps135, List.size_toArray, List.length_cons, List.length_nil, Nat.reduceAdd, Nat.reduceSub, Array.replicate_succ, Array.replicate_zero, List.push_toArray, List.append_toArray, List.nil_append, List.cons_append]
  gi_wp2
  gi_loopw [4] (fun p wr => ∃ (pre : List Int) (c : Int), p = .int .i64 c ∧ -1 ≤ c ∧ c < ts.length ∧ Hid (pathOf ts i = pre ++ pathOf ts c) ∧ Boxed wr Bt 24 (.slice a ts.length cap) ∧ Quad n₀ wr a ts ∧ J pre wr)
    (fun p _ => (intOf p + 1).toNat)
  case atStart =>
    exact ⟨[], i, rfl, by omega, i1, rfl, hBt, hq, h0⟩
  case round =>
    clear hq hBt hci
    obtain ⟨pre, c, rfl, hc0, hc1, HP, hBt, hq, hJs⟩ := hrel
    by_cases hc : c = -1
    · subst hc
      have HE : Hid (pathOf ts i = pre) := by
        have h1 := HP.out
        rw [path_end (i := -1) (by omega), List.append_nil] at h1
        exact h1
      gi_wp2
      go_end0
      exact ⟨⟨_, rfl⟩, .inl ⟨pre, HE.out.symm, hJs⟩⟩
    · obtain ⟨k, rfl⟩ : ∃ k : Nat, c = k := ⟨c.toNat, by omega⟩
      have hlt : k < ts.length := by omega
      have hst := path_step HW.out (i := (k : Int)) (by omega) hc1
      have hpar := parent_in HW.out (i := (k : Int)) (by omega) hc1
      rw [parent_at hlt] at hst hpar
      obtain ⟨p, hp⟩ : ∃ p, ts[k].1 = p := ⟨_, rfl⟩
      have HX : Hid (ts[k].1 = p) := hp
      rw [hp] at hst hpar
      clear hp
      have HN : Hid (pathOf ts i = (pre ++ [(k : Int)]) ++ pathOf ts p) := by
        have h1 := HP.out
        rw [hst] at h1
        show pathOf ts i = _
        rw [h1, List.append_assoc]
        rfl
      have hlen : pre.length < (pathOf ts i).length := by rw [HN.out]; simp
      clear hst
      have hp0 := hpar.1
      have hp1 := hpar.2
      clear hpar
      have hcn : ((k : Int) == -1) = false := by simp
      obtain ⟨fn, tmps, assign, body, hy, hR⟩ := hY pre (k : Int) wr hJs hlen
      clear hlen
      gi_wp2
      refine hR.mono ?_
      rintro e W3 (⟨rfl, hJ3, hk3⟩ | ⟨rfl, hJx3⟩)
      · have hBt3 := hk3.2 _ hBt
        have hct := hBt3.cell
        have hq3 := hq.mono hk3.1
        obtain ⟨b, off, ha, hb, cc, _⟩ := hq3 k hlt
        subst ha
        rw [HX.out] at cc
        gi_wp2
        go_roundw
        case rel => exact ⟨pre ++ [(k : Int)], p, rfl, hp0, by omega, HN, hBt3, hq3, hJ3⟩
        case measure => simp [intOf]; omega
      · gi_wp2
        refine bodyPost_ret (results_none rfl _ _ _) rfl ?_
        exact ⟨⟨_, rfl⟩, .inr ⟨pre ++ [(k : Int)], ⟨pathOf ts p, HN.out.symm⟩, hJx3⟩⟩
theorem up_in (F : Fence) (n : Nat) (hf : F.fn 103) (hro : F.round = none) (a : Option Addr) (m cap : Nat) (i : Int) (w : World) :
    CallsIn F n Try.prog 103 #[.slice a m cap, .int .i64 i] w fun e w' => e = .returned (.func (.func 135) #[] #[.pointer (some ⟨w.heap.size + 1, 0, none⟩), .pointer (some ⟨w.heap.size, 0, none⟩)]) ∧ w' = (w.alloc (.cells #[.slice a m cap] 24)).alloc (.cells #[.int .i64 i] 2) := by
  refine callsIn_of_wp Try.func103 rfl hf ?_ hro
  simp only [Try.ntmps103, List.size_toArray, List.length_cons, List.length_nil, Nat.reduceAdd, Nat.reduceSub, Array.replicate_succ, Array.replicate_zero, List.push_toArray, List.append_toArray, List.nil_append, List.cons_append]
  gi_wp2
  go_ret
  exact ⟨rfl, rfl⟩
end Go.Proofs.Ytmophpbfaonfmad
namespace Go.Proofs.Ytmophpbfaonfmad
open Go.ChangeShapes Go.WideShapes Go.ChangeAt Go.RowKit Go.Shelf
set_option maxRecDepth 100000
set_option linter.unusedVariables false
set_option linter.unusedSimpArgs false
attribute [local go_sem] Oper.semAt_some

theorem boxed_same {W : World} {B : Nat} {t : TypeId} {u v : Value} (h : Boxed W B t u) (k : Boxed W B t v) : u = v := by
  have e := h.cell.symm.trans k.cell
  exact Option.some.inj e
theorem up_stops {w : World} (Bi Bt n₀ : Nat) (a : Option Addr) (cap : Nat) {ts : List Q4} (i : Int) (hw : PWell ts) (hl : ts.length ≤ 30) (i0 : 0 ≤ i) (i1 : i < ts.length) {n : Nat}
    (hBi : Boxed w Bi 2 (.int .i64 i)) (hBt : Boxed w Bt 24 (.slice a ts.length cap)) (hq : Quad n₀ w a ts) (hn₀ : n₀ ≤ w.heap.size) (hn : 1 ≤ n := by omega) :
    SeqStopsK Fence.wide n Try.prog 135 #[.pointer (some ⟨Bi, 0, none⟩), .pointer (some ⟨Bt, 0, none⟩)] (fun x : Int => #[Value.int .i64 x]) (KpT n₀ Bt 24) (fun ys => ys = pathOf ts i) (fun pre => pre <+: pathOf ts i) (pathOf ts i).length w := fun l J Jx W hW _ _ hY h0 =>
  up1_in Fence.wide n trivial rfl hn l Bi Bt n₀ a cap ts i hw hl i0 i1 J Jx hY W ((hW.block Bi hBi.lt).trans hBi) ((hW.block Bt hBt.lt).trans hBt) (hq.mono (hW.mono hn₀)) h0
end Go.Proofs.Ytmophpbfaonfmad
namespace Go.Proofs.Ytmophpbfaonfmad
open Go.ChangeShapes Go.WideShapes Go.ChangeAt Go.RowKit Go.Shelf
set_option maxRecDepth 100000
set_option linter.unusedVariables false
set_option linter.unusedSimpArgs false
attribute [local go_sem] Oper.semAt_some

/-- The number of a class. -/
abbrev Idx (m : Nat) := { x : Int // 0 ≤ x ∧ x < (m : Int) }
def vals {m : Nat} (l : List (Idx m)) : List Int := l.map (·.1)
theorem vals_snoc {m : Nat} (l : List (Idx m)) (x : Idx m) : vals (l ++ [x]) = vals l ++ [x.1] := by simp [vals]
set_option maxHeartbeats 2000000 in
theorem up2_in (F : Fence) (n : Nat) (hf : F.fn 135) (hro : F.round = none) (hn : 1 ≤ n) (l Bi Bt n₀ : Nat) {Kp : World → World → Prop} (a : Option Addr) (cap : Nat) (ts : List Q4) (i : Int) (hw : PWell ts) (hl : ts.length ≤ 30) (i0 : 0 ≤ i) (i1 : i < ts.length) (J Jx : List (Idx ts.length) → World → Prop) (hKp : ∀ {W W' : World}, Kp W W' → (∀ v, Boxed W Bt 24 v → Boxed W' Bt 24 v) ∧ (Quad n₀ W a ts → Quad n₀ W' a ts))
    (hY : ∀ pre x W, J pre W → pre.length < (pathOf ts i).length → YieldAt F (n - 1) Try.prog l #[.int .i64 x.1] W fun e W' =>
      (e = .returned (.bool true) ∧ J (pre ++ [x]) W' ∧ Kp W W') ∨ (e = .returned (.bool false) ∧ Jx (pre ++ [x]) W'))
    (W : World) (hBi : Boxed W Bi 2 (.int .i64 i)) (hBt : Boxed W Bt 24 (.slice a ts.length cap)) (hq : Quad n₀ W a ts) (h0 : J [] W) :
    CallsIn F n Try.prog 135 #[.func (.yield l) #[] #[], .pointer (some ⟨Bi, 0, none⟩), .pointer (some ⟨Bt, 0, none⟩)] W fun e W' => (∃ v, e = .returned v) ∧
      ((∃ ys, vals ys = pathOf ts i ∧ J ys W') ∨ (∃ pre, vals pre <+: pathOf ts i ∧ Jx pre W')) := by
  have hci := hBi.cell
  have HW : Hid (PWell ts) := hw
  clear hw
  have hln : (ts.length : Int) ≤ 30 := by omega
  refine callsIn_of_wp Try.func135 rfl hf ?_ hro
  simp only [Try.ntmps135, List.size_toArray, List.length_cons, List.length_nil, Nat.reduceAdd, Nat.reduceSub, Array.replicate_succ, Array.replicate_zero, List.push_toArray, List.append_toArray, List.nil_append, List.cons_append]
  gi_wp2
  gi_loopw [4] (fun p wr => ∃ (pre : List (Idx ts.length)) (c : Int), p = .int .i64 c ∧ -1 ≤ c ∧ c < ts.length ∧ Hid (pathOf ts i = vals pre ++ pathOf ts c) ∧ Boxed wr Bt 24 (.slice a ts.length cap) ∧ Quad n₀ wr a ts ∧ J pre wr)
    (fun p _ => (intOf p + 1).toNat)
  case atStart =>
    exact ⟨[], i, rfl, by omega, i1, rfl, hBt, hq, h0⟩
  case round =>
    clear hq hBt hci
    obtain ⟨pre, c, rfl, hc0, hc1, HP, hBt, hq, hJs⟩ := hrel
    by_cases hc : c = -1
    · subst hc
      have HE : Hid (pathOf ts i = vals pre) := by
        have h1 := HP.out
        rw [path_end (i := -1) (by omega), List.append_nil] at h1
        exact h1
      gi_wp2
      go_end0
      exact ⟨⟨_, rfl⟩, .inl ⟨pre, HE.out.symm, hJs⟩⟩
    · obtain ⟨k, rfl⟩ : ∃ k : Nat, c = k := ⟨c.toNat, by omega⟩
      have hlt : k < ts.length := by omega
      have hck : 0 ≤ (k : Int) ∧ (k : Int) < (ts.length : Int) := ⟨by omega, by omega⟩
      have hst := path_step HW.out (i := (k : Int)) (by omega) hc1
      have hpar := parent_in HW.out (i := (k : Int)) (by omega) hc1
      rw [parent_at hlt] at hst hpar
      obtain ⟨p, hp⟩ : ∃ p, ts[k].1 = p := ⟨_, rfl⟩
      have HX : Hid (ts[k].1 = p) := hp
      rw [hp] at hst hpar
      clear hp
      have HN : Hid (pathOf ts i = vals (pre ++ [⟨(k : Int), hck⟩]) ++ pathOf ts p) := by
        have h1 := HP.out
        rw [hst] at h1
        show pathOf ts i = _
        rw [h1, vals_snoc, List.append_assoc]
        rfl
      have hlen : pre.length < (pathOf ts i).length := by rw [HN.out]; simp [vals]
      clear hst
      have hp0 := hpar.1
      have hp1 := hpar.2
      clear hpar
      have hcn : ((k : Int) == -1) = false := by simp
      obtain ⟨fn, tmps, assign, body, hy, hR⟩ := hY pre ⟨(k : Int), hck⟩ wr hJs hlen
      clear hlen
      gi_wp2
      refine hR.mono ?_
      rintro e W3 (⟨rfl, hJ3, hk3⟩ | ⟨rfl, hJx3⟩)
      · have hBt3 := (hKp hk3).1 _ hBt
        have hct := hBt3.cell
        have hq3 := (hKp hk3).2 hq
        obtain ⟨b, off, ha, hb, cc, _⟩ := hq3 k hlt
        subst ha
        rw [HX.out] at cc
        gi_wp2
        go_roundw
        case rel => exact ⟨pre ++ [⟨(k : Int), hck⟩], p, rfl, hp0, by omega, HN, hBt3, hq3, hJ3⟩
        case measure => simp [intOf]; omega
      · gi_wp2
        refine bodyPost_ret (results_none rfl _ _ _) rfl ?_
        exact ⟨⟨_, rfl⟩,   .inr ⟨pre ++ [⟨(k : Int), hck⟩], ⟨pathOf ts p, HN.out.symm⟩, hJx3⟩⟩
theorem up2_stops {w : World} (Bi Bt n₀ : Nat) (a : Option Addr) (cap : Nat) {ts : List Q4} (i : Int) (hw : PWell ts) (hl : ts.length ≤ 30) (i0 : 0 ≤ i) (i1 : i < ts.length) {Kp : World → World → Prop} (hKp : ∀ {W W' : World}, Kp W W' → (∀ v, Boxed W Bt 24 v → Boxed W' Bt 24 v) ∧ (Quad n₀ W a ts → Quad n₀ W' a ts)) {n : Nat}
    (hBi : Boxed w Bi 2 (.int .i64 i)) (hBt : Boxed w Bt 24 (.slice a ts.length cap)) (hq : Quad n₀ w a ts) (hn₀ : n₀ ≤ w.heap.size) (hn : 1 ≤ n := by omega) :
    SeqStopsK Fence.wide n Try.prog 135 #[.pointer (some ⟨Bi, 0, none⟩), .pointer (some ⟨Bt, 0, none⟩)] (fun x : Idx ts.length => #[Value.int .i64 x.1]) Kp (fun ys => vals ys = pathOf ts i) (fun pre => vals pre <+: pathOf ts i) (pathOf ts i).length w := fun l J Jx W hW _ _ hY h0 =>
  up2_in Fence.wide n trivial rfl hn l Bi Bt n₀ a cap ts i hw hl i0 i1 J Jx hKp hY W ((hW.block Bi hBi.lt).trans hBi) ((hW.block Bt hBt.lt).trans hBt) (hq.mono (hW.mono hn₀)) h0
end Go.Proofs.Ytmophpbfaonfmad
