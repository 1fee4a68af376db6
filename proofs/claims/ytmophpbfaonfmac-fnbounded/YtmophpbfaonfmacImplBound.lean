/- What impl.bytesUp and impl.Bound answer. -/
import Derived.Test.YtmophpbfaonfmacTimes
import Derived.Test.YtmophpbfaonfmacGrpI
import Derived.Test.YtmophpbfaonfmacImplLendOk
import Derived.Test.YtmophpbfaonfmacImplAtt
namespace Go.Proofs.Ytmophpbfaonfmac
open Go.ChangeShapes Go.WideShapes Go.ChangeAt Go.RowKit
set_option maxRecDepth 100000
set_option linter.unusedVariables false
set_option linter.unusedSimpArgs false

def restB (r t : Int) : Bool := ((wrap64 (r % 1000000000 * (t % 1000000000))).tmod 1000000000 != 0)
def upOf (r t : Int) : Int := if restB r t = true then wrap64 (bytesOf r t + 1) else bytesOf r t
def boundOk (T O P : List Q4) (i ns : Int) : Bool := (lendB T O P && (decide (0 ≤ i) && decide (i ≤ (T.length : Int) - 1))) && timeB ns
def boundAt (T : List Q4) (i ns : Int) : Int := match T[i.toNat]? with | some t => wrap64 (t.2.2.2 + upOf t.2.2.1 ns) | none => -1
/-- What Bound tells. -/
def boundAns (T O P : List Q4) (i ns : Int) : Int := if boundOk T O P i ns = true then boundAt T i ns else -1
theorem bound_no {T O P : List Q4} {i ns : Int} (h : boundOk T O P i ns = false) : boundAns T O P i ns = -1 := by unfold boundAns; rw [h]; rfl
theorem bound_yes {T O P : List Q4} {k : Nat} {ns : Int} {p r c u : Int} (h : boundOk T O P (k : Int) ns = true) (hk : k < T.length) (he : T[k] = (p, r, c, u)) : boundAns T O P (k : Int) ns = wrap64 (u + upOf c ns) := by
  unfold boundAns boundAt
  rw [h, if_pos rfl, Int.toNat_natCast, List.getElem?_eq_getElem hk, he]
theorem bound_has {T O P : List Q4} {i ns : Int} (hl : lendB T O P = true) : boundOk T O P i ns = (hasB T i && timeB ns) := by
  unfold boundOk hasB
  rw [hl, decide_eq_true (lend_of hl).code]
theorem iTime_is {x : Int} {f : Bool} (h : timeB x = f) (w : World) : Calls Try.prog 54 #[.int .i64 x] w fun e w' => e = .returned (.bool f) ∧ w' = w := by subst h; exact itime_any x w
theorem up_any {r t : Int} (w : World) (hr : 0 ≤ r ∧ r ≤ 1000000000000) (ht : 0 ≤ t ∧ t ≤ 1000000000000000) :
    Calls Try.prog 130 #[.int .i64 r, .int .i64 t] w fun e w' => e = .returned (.int .i64 (upOf r t)) ∧ Below w.heap.size w w' := by
  unfold upOf
  cases hB : restB r t
  · have hb : ((wrap64 (r % 1000000000 * (t % 1000000000))).tmod 1000000000 != 0) = false := hB
    clear hB
    go_enter Try.func130, Try.ntmps130
    go_wp2_with (first | (go_at_call 146; refine (implBytes_any _ _ _).mono ?_; rintro e w2 ⟨rfl, hb2⟩))
    all_goals go_ret
    all_goals first | exact ⟨rfl, hb2⟩ | (exfalso; simp_all; done)
  · have hb : ((wrap64 (r % 1000000000 * (t % 1000000000))).tmod 1000000000 != 0) = true := hB
    clear hB
    go_enter Try.func130, Try.ntmps130
    go_wp2_with (first | (go_at_call 146; refine (implBytes_any _ _ _).mono ?_; rintro e w2 ⟨rfl, hb2⟩))
    all_goals go_ret
    all_goals first | exact ⟨rfl, hb2⟩ | (exfalso; simp_all; done)
set_option maxHeartbeats 4000000 in
theorem boundOf_no {w : World} {aT aO aP : Option Addr} (cT cO cP : Nat) {T O P : List Q4} (i ns : Int) (hT : Quad w.heap.size w aT T) (hO : Quad w.heap.size w aO O) (hP : Quad w.heap.size w aP P) (hn : boundOk T O P i ns = false) :
    Calls Try.prog 104 #[lendV aT T.length cT aO O.length cO aP P.length cP, .int .i64 i, .int .i64 ns] w fun e w' => e = gaveUp ∧ Below w.heap.size w w' := by
  have nb : Below w.heap.size w (w.alloc (.cells #[.slice aT T.length cT, .slice aO O.length cO, .slice aP P.length cP] 64)) := new_below _ _
  have c0 : (w.alloc (.cells #[.slice aT T.length cT, .slice aO O.length cO, .slice aP P.length cP] 64)).cell? ⟨w.heap.size, 0, none⟩ = some (.slice aT T.length cT) := by go_simp
  have zb : w.heap.size < (w.alloc (.cells #[.slice aT T.length cT, .slice aO O.length cO, .slice aP P.length cP] 64)).heap.size := by simp
  cases hl : lendB T O P
  · go_enter Try.func104, Try.ntmps104
    go_wp2_with (first | (go_at_call 106; refine (right_no cT cO cP hl (hT.here nb) (hO.here nb) (hP.here nb)).mono ?_; rintro e w2 ⟨rfl, hb2⟩))
    exact ⟨rfl, rfl, below_step nb hb2⟩
  rw [bound_has hl] at hn
  cases hh : hasB T i
  · clear hn
    go_enter Try.func104, Try.ntmps104
    go_wp2_with (first | (go_at_call 106; refine (right_yes cT cO cP hl (hT.here nb) (hO.here nb) (hP.here nb)).mono ?_; rintro e w2 ⟨rfl, hb2⟩; have k0 := (below_cells hb2 _ _ zb).trans c0; have hb2w := below_step nb hb2) | (go_at_call 83; refine (iClass_is cT hh (hT.here hb2w)).mono ?_; rintro e w3 ⟨rfl, hb3⟩) | (go_at_call 126; refine (insist_off _).mono ?_; rintro e w4 ⟨rfl, rfl⟩))
    exact ⟨rfl, rfl, below_step hb2w hb3⟩
  · have ht : timeB ns = false := by rw [hh, Bool.true_and] at hn; exact hn
    clear hn
    go_enter Try.func104, Try.ntmps104
    go_wp2_with (first | (go_at_call 106; refine (right_yes cT cO cP hl (hT.here nb) (hO.here nb) (hP.here nb)).mono ?_; rintro e w2 ⟨rfl, hb2⟩; have k0 := (below_cells hb2 _ _ zb).trans c0; have hb2w := below_step nb hb2) | (go_at_call 83; refine (iClass_is cT hh (hT.here hb2w)).mono ?_; rintro e w3 ⟨rfl, hb3⟩) | (go_at_call 54; refine (iTime_is ht _).mono ?_; rintro e w5 ⟨rfl, h5⟩; have h5 := h5.symm; subst h5) | (go_at_call 126; refine (insist_off _).mono ?_; rintro e w4 ⟨rfl, rfl⟩))
    exact ⟨rfl, rfl, below_step hb2w hb3⟩
set_option maxHeartbeats 4000000 in
theorem boundOf_yes {w : World} {aT aO aP : Option Addr} (cT cO cP : Nat) {T O P : List Q4} (i ns : Int) (hT : Quad w.heap.size w aT T) (hO : Quad w.heap.size w aO O) (hP : Quad w.heap.size w aP P) (hn : boundOk T O P i ns = true) :
    Calls Try.prog 104 #[lendV aT T.length cT aO O.length cO aP P.length cP, .int .i64 i, .int .i64 ns] w fun e w' => e = .returned (.int .i64 (boundAns T O P i ns)) ∧ Below w.heap.size w w' := by
  have hl : lendB T O P = true := by
    have h := hn
    unfold boundOk at h
    simp only [Bool.and_eq_true] at h
    exact h.1.1
  have hn2 := hn
  rw [bound_has hl, Bool.and_eq_true] at hn2
  have hh := hn2.1
  have ht := hn2.2
  obtain ⟨htr, i0, i1⟩ := has_tree hh
  obtain ⟨k, rfl⟩ := Int.eq_ofNat_of_zero_le i0
  have hk : k < T.length := by omega
  have hki : (k : Int) < (T.length : Int) := by omega
  have hTi : (T.length : Int) ≤ 30 := by have := htr.l1; omega
  have hcl := cls_good' htr k hk
  obtain ⟨bt, ot, rfl, hbt, -⟩ := hT k hk
  obtain ⟨⟨p, r, c, u⟩, he⟩ : ∃ b, T[k] = b := ⟨_, rfl⟩
  rw [he] at hcl
  have hcr : 0 ≤ c ∧ c ≤ 1000000000000 := by
    have h := hcl.2.1
    unfold rateB at h
    simp only [Bool.and_eq_true, decide_eq_true_eq] at h
    exact h
  have htn : 0 ≤ ns ∧ ns ≤ 1000000000000000 := tim_num ht
  have HB : Hid (boundAns T O P (k : Int) ns = wrap64 (u + upOf c ns)) := bound_yes hn hk he
  rw [HB.out]
  have HE : Hid (∀ W, Below w.heap.size w W → W.cell? ⟨bt, ot + k * 4 + 2, none⟩ = some (.int .i64 c) ∧ W.cell? ⟨bt, ot + k * 4 + 3, none⟩ = some (.int .i64 u)) := fun W h => (by have e := hT.cells h k hk; rw [he] at e; exact ⟨e.2.2.1, e.2.2.2⟩)
  have nb : Below w.heap.size w (w.alloc (.cells #[.slice (some ⟨bt, ot, none⟩) T.length cT, .slice aO O.length cO, .slice aP P.length cP] 64)) := new_below _ _
  have c0 : (w.alloc (.cells #[.slice (some ⟨bt, ot, none⟩) T.length cT, .slice aO O.length cO, .slice aP P.length cP] 64)).cell? ⟨w.heap.size, 0, none⟩ = some (.slice (some ⟨bt, ot, none⟩) T.length cT) := by go_simp
  have zb : w.heap.size < (w.alloc (.cells #[.slice (some ⟨bt, ot, none⟩) T.length cT, .slice aO O.length cO, .slice aP P.length cP] 64)).heap.size := by simp
  clear hn hn2 htr he hcl
  go_enter Try.func104, Try.ntmps104
  go_upto_region 3 with (first | (go_at_call 106; refine (right_yes cT cO cP hl (hT.here nb) (hO.here nb) (hP.here nb)).mono ?_; rintro e w2 ⟨rfl, hb2⟩; have k0 := (below_cells hb2 _ _ zb).trans c0; have hb2w := below_step nb hb2; have zb2 := Nat.lt_of_lt_of_le zb hb2.size) | (go_at_call 83; refine (iClass_is cT hh (hT.here hb2w)).mono ?_; rintro e w3 ⟨rfl, hb3⟩; have k3 := (below_cells hb3 _ _ zb2).trans k0; have hb3w := below_step hb2w hb3; have zb3 := Nat.lt_of_lt_of_le zb2 hb3.size) | (go_at_call 54; refine (iTime_is ht _).mono ?_; rintro e w5 ⟨rfl, h5⟩; have h5 := h5.symm; subst h5) | (go_at_call 126; refine (insist_on _).mono ?_; rintro e w4 ⟨rfl, rfl⟩))
  have HS : Hid (∀ W, Below w3.heap.size w3 W → (fun w' => w'.cell? ⟨w.heap.size, 0, none⟩ = some (.slice (some ⟨bt, ot, none⟩) T.length cT) ∧ w'.cell? ⟨bt, ot + k * 4 + 2, none⟩ = some (.int .i64 c) ∧ w'.cell? ⟨bt, ot + k * 4 + 3, none⟩ = some (.int .i64 u)) W) := fun W h => (by have e := HE.out W (below_two hb3w h); exact ⟨(below_cells h _ _ zb3).trans k3, e.1, e.2⟩)
  refine wp_region_held_drew (S := fun w' => w'.cell? ⟨w.heap.size, 0, none⟩ = some (.slice (some ⟨bt, ot, none⟩) T.length cT) ∧ w'.cell? ⟨bt, ot + k * 4 + 2, none⟩ = some (.int .i64 c) ∧ w'.cell? ⟨bt, ot + k * 4 + 3, none⟩ = some (.int .i64 u)) (by kernel_rfl) (HS.out _ (Below.refl _ _).drew) (fun hS => ?_)
  refine wpAnyH_take (i := 0) (v := ?_) rfl (by kernel_rfl) (by kernel_rfl) (by kernel_rfl) (fun _ _ _ h => h) (Or.inl ⟨by rfl, ?_⟩) (by assumption) ?_
  rotate_left 1
  · (intro w' hSw; (try dsimp only at hSw); go_simp; try with_reducible rfl)
  try simp only [Act.put, List.setIfInBounds_toArray, List.set_cons_zero, List.set_cons_succ, List.getElem_toArray, List.getElem_cons_succ, List.getElem_cons_zero]
  refine wpAnyH_take (i := 1) (v := ?_) rfl (by kernel_rfl) (by kernel_rfl) (by kernel_rfl) (fun _ _ _ h => h) (Or.inl ⟨by rfl, ?_⟩) (by assumption) ?_
  rotate_left 1
  · (intro w' hSw; (try dsimp only at hSw); go_simp; try with_reducible rfl)
  try simp only [Act.put, List.setIfInBounds_toArray, List.set_cons_zero, List.set_cons_succ, List.getElem_toArray, List.getElem_cons_succ, List.getElem_cons_zero]
  refine wpAnyH_take (i := 2) (v := ?_) rfl (by kernel_rfl) (by kernel_rfl) (by kernel_rfl) (fun _ _ _ h => h) (Or.inl ⟨by rfl, ?_⟩) (by assumption) ?_
  rotate_left 1
  · (intro w' hSw; (try dsimp only at hSw); go_simp; try with_reducible rfl)
  try simp only [Act.put, List.setIfInBounds_toArray, List.set_cons_zero, List.set_cons_succ, List.getElem_toArray, List.getElem_cons_succ, List.getElem_cons_zero]
  refine wpAnyH_take (i := 3) (v := ?_) rfl (by kernel_rfl) (by kernel_rfl) (by kernel_rfl) (fun _ _ _ h => h) (Or.inl ⟨by rfl, ?_⟩) (by assumption) ?_
  rotate_left 1
  · (intro w' hSw; (try dsimp only at hSw); go_simp; try with_reducible rfl)
  try simp only [Act.put, List.setIfInBounds_toArray, List.set_cons_zero, List.set_cons_succ, List.getElem_toArray, List.getElem_cons_succ, List.getElem_cons_zero]
  refine wpAnyH_take (i := 4) (v := ?_) rfl (by kernel_rfl) (by kernel_rfl) (by kernel_rfl) (fun _ _ _ h => h) (Or.inl ⟨by rfl, ?_⟩) (by assumption) ?_
  rotate_left 1
  · (intro w' hSw; (try dsimp only at hSw); go_simp; try with_reducible rfl)
  try simp only [Act.put, List.setIfInBounds_toArray, List.set_cons_zero, List.set_cons_succ, List.getElem_toArray, List.getElem_cons_succ, List.getElem_cons_zero]
  refine wpAnyH_take (i := 5) (v := ?_) rfl (by kernel_rfl) (by kernel_rfl) (by kernel_rfl) (fun _ _ _ h => h) (Or.inl ⟨by rfl, ?_⟩) (by assumption) ?_
  rotate_left 1
  · (intro w' hSw; (try dsimp only at hSw); go_simp; try with_reducible rfl)
  try simp only [Act.put, List.setIfInBounds_toArray, List.set_cons_zero, List.set_cons_succ, List.getElem_toArray, List.getElem_cons_succ, List.getElem_cons_zero]
  refine wpAnyH_take (i := 6) (v := ?_) rfl (by kernel_rfl) (by kernel_rfl) (by kernel_rfl) (fun _ _ _ h => h) (Or.inl ⟨by rfl, ?_⟩) (by assumption) ?_
  rotate_left 1
  · (intro w' hSw; (try dsimp only at hSw); go_simp; try with_reducible rfl)
  try simp only [Act.put, List.setIfInBounds_toArray, List.set_cons_zero, List.set_cons_succ, List.getElem_toArray, List.getElem_cons_succ, List.getElem_cons_zero]
  refine wpAnyH_take (i := 7) (v := ?_) rfl (by kernel_rfl) (by kernel_rfl) (by kernel_rfl) (fun _ _ _ h => h) (Or.inl ⟨by rfl, ?_⟩) (by assumption) ?_
  rotate_left 1
  · (intro w' hSw; (try dsimp only at hSw); go_simp; try with_reducible rfl)
  try simp only [Act.put, List.setIfInBounds_toArray, List.set_cons_zero, List.set_cons_succ, List.getElem_toArray, List.getElem_cons_succ, List.getElem_cons_zero]
  refine wpAnyH_take (i := 8) (v := ?_) rfl (by kernel_rfl) (by kernel_rfl) (by kernel_rfl) (fun _ _ _ h => h) (Or.inl ⟨by rfl, ?_⟩) (by assumption) ?_
  rotate_left 1
  · (intro w' hSw; (try dsimp only at hSw); go_simp; try with_reducible rfl)
  try simp only [Act.put, List.setIfInBounds_toArray, List.set_cons_zero, List.set_cons_succ, List.getElem_toArray, List.getElem_cons_succ, List.getElem_cons_zero]
  refine wpAnyH_take (i := 9) (v := ?_) rfl (by kernel_rfl) (by kernel_rfl) (by kernel_rfl) (fun _ _ _ h => h) (Or.inl ⟨by rfl, ?_⟩) (by assumption) ?_
  rotate_left 1
  · (intro w' hSw; (try dsimp only at hSw); go_simp; try with_reducible rfl)
  try simp only [Act.put, List.setIfInBounds_toArray, List.set_cons_zero, List.set_cons_succ, List.getElem_toArray, List.getElem_cons_succ, List.getElem_cons_zero]
  refine wpAnyH_take (i := 10) (v := ?_) rfl (by kernel_rfl) (by kernel_rfl) (by kernel_rfl) (fun _ _ _ h => h) (Or.inl ⟨by rfl, ?_⟩) (by assumption) ?_
  rotate_left 1
  · (intro w' hSw; (try dsimp only at hSw); go_simp; try with_reducible rfl)
  try simp only [Act.put, List.setIfInBounds_toArray, List.set_cons_zero, List.set_cons_succ, List.getElem_toArray, List.getElem_cons_succ, List.getElem_cons_zero]
  refine wpAnyH_take (i := 11) (v := ?_) rfl (by kernel_rfl) (by kernel_rfl) (by kernel_rfl) (fun _ _ _ h => h) (Or.inl ⟨by rfl, ?_⟩) (by assumption) ?_
  rotate_left 1
  · (intro w' hSw; (try dsimp only at hSw); go_simp; try with_reducible rfl)
  try simp only [Act.put, List.setIfInBounds_toArray, List.set_cons_zero, List.set_cons_succ, List.getElem_toArray, List.getElem_cons_succ, List.getElem_cons_zero]
  refine wpAnyH_take (i := 12) (v := ?_) rfl (by kernel_rfl) (by kernel_rfl) (by kernel_rfl) (fun _ _ _ h => h) (Or.inl ⟨by rfl, ?_⟩) (by assumption) ?_
  rotate_left 1
  · (intro w' hSw; (try dsimp only at hSw); go_simp; try with_reducible rfl)
  try simp only [Act.put, List.setIfInBounds_toArray, List.set_cons_zero, List.set_cons_succ, List.getElem_toArray, List.getElem_cons_succ, List.getElem_cons_zero]
  refine wpAnyH_ready (rs := [13]) (by kernel_rfl) (by simp) (AllReadyH.cons rfl (fun K hK => ?_) AllReadyH.nil)
  go_simp
  (refine (up_any _ hcr htn).mono ?_; rintro e w5 ⟨rfl, hb5⟩; have hb5 := undrew hb5; have hS5 := HS.out _ hb5)
  refine hK.out _ _ (by assumption) (fun _ => ?_)
  try simp only [Act.put, List.setIfInBounds_toArray, List.set_cons_zero, List.set_cons_succ, List.getElem_toArray, List.getElem_cons_succ, List.getElem_cons_zero]
  refine wpAnyH_take (i := 14) (v := ?_) rfl (by kernel_rfl) (by kernel_rfl) (by kernel_rfl) (fun _ _ _ h => h) (Or.inl ⟨by rfl, ?_⟩) (by assumption) ?_
  rotate_left 1
  · (intro w' hSw; (try dsimp only at hSw); go_simp; try with_reducible rfl)
  try simp only [Act.put, List.setIfInBounds_toArray, List.set_cons_zero, List.set_cons_succ, List.getElem_toArray, List.getElem_cons_succ, List.getElem_cons_zero]
  refine wpAnyH_take (i := 15) (v := ?_) rfl (by kernel_rfl) (by kernel_rfl) (by kernel_rfl) (fun _ _ _ h => h) (Or.inl ⟨by rfl, ?_⟩) (by assumption) ?_
  rotate_left 1
  · (intro w' hSw; (try dsimp only at hSw); go_simp; try with_reducible rfl)
  try simp only [Act.put, List.setIfInBounds_toArray, List.set_cons_zero, List.set_cons_succ, List.getElem_toArray, List.getElem_cons_succ, List.getElem_cons_zero]
  refine wpAnyH_done (by kernel_rfl) ?_ _
  go_wp2
  go_ret
  refine ⟨?_, below_two hb3w hb5⟩
  show Ending.returned (Value.int IntKind.i64 (IntKind.i64.wrap (u + upOf c ns))) = _; simp only [IntKind.wrap_i64, wrap64]
theorem bound1_yes {w : World} {b0 b1 b2 bv : Nat} {aT aO aP : Option Addr} (cT cO cP : Nat) {T O P : List Q4} (i ns : Int) (hc : Cells w [(b0, 0, .slice aT T.length cT), (b0, 1, .slice aO O.length cO), (b0, 2, .slice aP P.length cP), (b1, 0, .int .i64 i), (b2, 0, .int .i64 ns)]) (hT : Quad w.heap.size w aT T) (hO : Quad w.heap.size w aO O) (hP : Quad w.heap.size w aP P) {u : Value} (kv : w.cell? ⟨bv, 0, none⟩ = some u) (hz : w.frozen? ⟨bv, 0, none⟩ = false) (hn : boundOk T O P i ns = true) :
    Calls Try.prog 103 #[.pointer (some ⟨b0, 0, none⟩), .pointer (some ⟨b1, 0, none⟩), .pointer (some ⟨b2, 0, none⟩), .pointer (some ⟨bv, 0, none⟩)] w fun e W => e = .returned (.tuple #[]) ∧ W.cell? ⟨bv, 0, none⟩ = some (.int .i64 (boundAns T O P i ns)) ∧ OnlyP (fun k => k = bv) w W := by
  have ⟨⟨_, k0⟩, ⟨_, k1⟩, ⟨_, k2⟩, ⟨_, k3⟩, ⟨_, k4⟩, _⟩ := hc
  have zv : bv < w.heap.size := World.block_lt_of_cell? w _ kv
  clear hc
  go_enter Try.func103, Try.ntmps103
  go_wp2_with (first | (go_at_call 104; refine (boundOf_yes cT cO cP i ns hT hO hP hn).mono ?_; rintro e w2 ⟨rfl, hb2⟩; have cv := (below_cells hb2 _ _ zv).trans kv; have fv := (below_frozens hb2 _ _ zv).trans hz))
  go_end0
  refine ⟨rfl, World.cell?_setCell_same' _ _ _ (by rw [cv]; rfl), ?_⟩
  refine ⟨hb2.os, hb2.tape, hb2.output, by simpa using hb2.size, fun k hk hn => ?_⟩
  rw [Below.heap_setCell _ _ _ _ (by simp only; omega)]
  exact hb2.block k hk
theorem bound1_no {w : World} {b0 b1 b2 bv : Nat} {aT aO aP : Option Addr} (cT cO cP : Nat) {T O P : List Q4} (i ns : Int) (hc : Cells w [(b0, 0, .slice aT T.length cT), (b0, 1, .slice aO O.length cO), (b0, 2, .slice aP P.length cP), (b1, 0, .int .i64 i), (b2, 0, .int .i64 ns)]) (hT : Quad w.heap.size w aT T) (hO : Quad w.heap.size w aO O) (hP : Quad w.heap.size w aP P) (hn : boundOk T O P i ns = false) :
    Calls Try.prog 103 #[.pointer (some ⟨b0, 0, none⟩), .pointer (some ⟨b1, 0, none⟩), .pointer (some ⟨b2, 0, none⟩), .pointer (some ⟨bv, 0, none⟩)] w fun e W => e = gaveUp ∧ Below w.heap.size w W := by
  have ⟨⟨_, k0⟩, ⟨_, k1⟩, ⟨_, k2⟩, ⟨_, k3⟩, ⟨_, k4⟩, _⟩ := hc
  clear hc
  go_enter Try.func103, Try.ntmps103
  go_wp2_with (first | (go_at_call 104; refine (boundOf_no cT cO cP i ns hT hO hP hn).mono ?_; rintro e w2 ⟨rfl, hb2⟩))
  exact ⟨rfl, rfl, hb2⟩
set_option maxHeartbeats 2000000 in
theorem iBound_any {w : World} {aT aO aP : Option Addr} (cT cO cP : Nat) {T O P : List Q4} (i ns : Int) (hT : Quad w.heap.size w aT T) (hO : Quad w.heap.size w aO O) (hP : Quad w.heap.size w aP P) :
    Calls Try.prog 48 #[lendV aT T.length cT aO O.length cO aP P.length cP, .int .i64 i, .int .i64 ns] w fun e w' => e = .returned (.int .i64 (boundAns T O P i ns)) ∧ Below w.heap.size w w' := by
  have hmf : ∀ (fn : Fn) (first cap : Array Value) (w : World), (Instr.makeFunc fn first cap).run Try.prog w = .ok (.func fn first cap) w := fun _ _ _ _ => rfl
  have hent : ∀ args w, (callFunc 103 args).run Try.prog w = .ok (.enter 103 args) w := enters_of Try.func103 (by kernel_rfl) rfl
  have hb4 : Below w.heap.size w ((((w.alloc (.cells #[.slice aT T.length cT, .slice aO O.length cO, .slice aP P.length cP] 64)).alloc (.cells #[.int .i64 i] 2)).alloc (.cells #[.int .i64 ns] 2)).alloc (.cells #[.int .i64 (-1)] 2)) := by go_grown
  have s4 : ((((w.alloc (.cells #[.slice aT T.length cT, .slice aO O.length cO, .slice aP P.length cP] 64)).alloc (.cells #[.int .i64 i] 2)).alloc (.cells #[.int .i64 ns] 2)).alloc (.cells #[.int .i64 (-1)] 2)).heap.size = w.heap.size + 4 := by simp
  have c4 : Cells ((((w.alloc (.cells #[.slice aT T.length cT, .slice aO O.length cO, .slice aP P.length cP] 64)).alloc (.cells #[.int .i64 i] 2)).alloc (.cells #[.int .i64 ns] 2)).alloc (.cells #[.int .i64 (-1)] 2)) [(w.heap.size, 0, .slice aT T.length cT), (w.heap.size, 1, .slice aO O.length cO), (w.heap.size, 2, .slice aP P.length cP), (w.heap.size + 1, 0, .int .i64 i), (w.heap.size + 2, 0, .int .i64 ns), (w.heap.size + 3, 0, .int .i64 (-1))] :=
    ⟨⟨by simp <;> omega, by go_simp⟩, ⟨by simp <;> omega, by go_simp⟩, ⟨by simp <;> omega, by go_simp⟩, ⟨by simp <;> omega, by go_simp⟩, ⟨by simp <;> omega, by go_simp⟩, ⟨by simp <;> omega, by go_simp⟩, trivial⟩
  have f3 : ((((w.alloc (.cells #[.slice aT T.length cT, .slice aO O.length cO, .slice aP P.length cP] 64)).alloc (.cells #[.int .i64 i] 2)).alloc (.cells #[.int .i64 ns] 2)).alloc (.cells #[.int .i64 (-1)] 2)).frozen? ⟨w.heap.size + 3, 0, none⟩ = false := by go_simp
  have nd := new_below ((((w.alloc (.cells #[.slice aT T.length cT, .slice aO O.length cO, .slice aP P.length cP] 64)).alloc (.cells #[.int .i64 i] 2)).alloc (.cells #[.int .i64 ns] 2)).alloc (.cells #[.int .i64 (-1)] 2)) (.cells #[.bool false] 4)
  have hb5 : Below w.heap.size w (((((w.alloc (.cells #[.slice aT T.length cT, .slice aO O.length cO, .slice aP P.length cP] 64)).alloc (.cells #[.int .i64 i] 2)).alloc (.cells #[.int .i64 ns] 2)).alloc (.cells #[.int .i64 (-1)] 2)).alloc (.cells #[.bool false] 4)) := below_two hb4 nd
  have ⟨x0, x1, x2, x3, x4, x5, _⟩ := Cells.next nd c4
  have f35 : (((((w.alloc (.cells #[.slice aT T.length cT, .slice aO O.length cO, .slice aP P.length cP] 64)).alloc (.cells #[.int .i64 i] 2)).alloc (.cells #[.int .i64 ns] 2)).alloc (.cells #[.int .i64 (-1)] 2)).alloc (.cells #[.bool false] 4)).frozen? ⟨w.heap.size + 3, 0, none⟩ = false := (below_frozens nd _ _ (by rw [s4]; omega)).trans f3
  cases hn : boundOk T O P i ns
  · rw [bound_no hn]
    have hk := att_no _ hent (bound1_no (bv := w.heap.size + 3) cT cO cP i ns ⟨x0, x1, x2, x3, x4, trivial⟩ (hT.here hb5) (hO.here hb5) (hP.here hb5) hn)
    have C4 : Hid (Cells ((((w.alloc (.cells #[.slice aT T.length cT, .slice aO O.length cO, .slice aP P.length cP] 64)).alloc (.cells #[.int .i64 i] 2)).alloc (.cells #[.int .i64 ns] 2)).alloc (.cells #[.int .i64 (-1)] 2)) _) := c4
    clear c4 x0 x1 x2 x3 x4 x5 hent nd hb5 f3 f35
    go_enter Try.func48, Try.ntmps48
    go_wp2_with (first | (go_at_call 95; refine hk.mono ?_; clear hk; rintro e w2 ⟨rfl, hb2⟩; have ⟨_, _, _, _, _, ⟨_, j5⟩, _⟩ := Cells.next hb2 C4.out))
    go_ret
    exact ⟨rfl, below_two hb4 hb2⟩
  · have hk := att_onA _ hent (p := fun k => k = w.heap.size + 3) (R := fun W => W.cell? ⟨w.heap.size + 3, 0, none⟩ = some (.int .i64 (boundAns T O P i ns))) (by rw [s4]; omega) (fun W v h => (set_far (show ((((w.alloc (.cells #[.slice aT T.length cT, .slice aO O.length cO, .slice aP P.length cP] 64)).alloc (.cells #[.int .i64 i] 2)).alloc (.cells #[.int .i64 ns] 2)).alloc (.cells #[.int .i64 (-1)] 2)).heap.size ≠ w.heap.size + 3 by rw [s4]; omega)).trans h) (bound1_yes cT cO cP i ns ⟨x0, x1, x2, x3, x4, trivial⟩ (hT.here hb5) (hO.here hb5) (hP.here hb5) x5.2 f35 hn)
    clear c4 x0 x1 x2 x3 x4 x5 hent nd hb5 f3 f35
    go_enter Try.func48, Try.ntmps48
    go_wp2_with (first | (go_at_call 95; refine hk.mono ?_; clear hk; rintro e w2 ⟨rfl, hcv, ho⟩))
    go_ret
    exact ⟨rfl, hb4.trans (ho.below (fun k e => by omega) hb4.size)⟩
end Go.Proofs.Ytmophpbfaonfmac
