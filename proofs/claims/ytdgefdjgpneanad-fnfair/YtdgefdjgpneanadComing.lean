/- What impl.comingTurns answers: a closed channel that holds a round of turns. -/
import Derived.Test.YtdgefdjgpneanadChan
import Derived.Test.YtdgefdjgpneanadTurnMath
namespace Go.Proofs.Ytdgefdjgpneanad
open Go.ChangeShapes Go.WideShapes Go.ChangeAt Go.RowKit Go.Conc
set_option maxRecDepth 100000
set_option linter.unusedVariables false
set_option linter.unusedSimpArgs false

/-- The turns of a round: the flow At as it stands, then so many from the next one on. -/
def comeOf (n : Nat) (at' : Int) (fresh : Bool) (m : Nat) : List (Int × Bool) := (at', fresh) :: (List.range m).map fun (j : Nat) => ((at' + 1 + (j : Int)) % (n : Int), true)
def turnA (x : Int × Bool) : Value := .agg #[.int .i64 x.1, .bool x.2]
def comeA (n : Nat) (at' : Int) (fresh : Bool) (m : Nat) : Array Value := ((comeOf n at' fresh m).map turnA).toArray
theorem comeA_size (n : Nat) (at' : Int) (fresh : Bool) (m : Nat) : (comeA n at' fresh m).size = m + 1 := by simp [comeA, comeOf]
theorem comeA_push (n : Nat) (at' : Int) (fresh : Bool) (m : Nat) : (comeA n at' fresh m).push (.agg #[.int .i64 ((at' + 1 + (m : Int)) % (n : Int)), .bool true]) = comeA n at' fresh (m + 1) := by
  unfold comeA comeOf
  simp [List.range_succ, turnA]
/-- The channel while it is sent to. -/
structure Cm (w : World) (at' : Int) (fresh : Bool) (n j : Nat) (W : World) : Prop where
  ch : W.heap[w.heap.size + 1]? = some (.chan (n + 1) (comeA n at' fresh j) false (j + 1) 0 false)
  at1 : W.cell? ⟨w.heap.size, 1, none⟩ = some (.int .i64 at')
  size : W.heap.size = w.heap.size + 2
  hb : Below w.heap.size w W
theorem set_chan_cell {W : World} {c cap s r o k : Nat} {buf : Array Value} {cl tm : Bool} (h : k ≠ c) : (W.setChan c cap buf cl s r tm).cell? ⟨k, o, none⟩ = W.cell? ⟨k, o, none⟩ := World.cell?_of_block (a := ⟨k, o, none⟩) (by simp only [World.setChan]; rw [Array.getElem?_setIfInBounds_ne (fun e => h e.symm)])
theorem Cm.next {w : World} {at' : Int} {fresh : Bool} {n j : Nat} {W : World} (h : Cm w at' fresh n j W) : Cm w at' fresh n (j + 1) (W.setChan (w.heap.size + 1) (n + 1) ((comeA n at' fresh j).push (.agg #[.int .i64 ((at' + 1 + (j : Int)) % (n : Int)), .bool true])) false (j + 1 + 1) 0 false) := by
  have hs := h.size
  refine ⟨?_, (set_chan_cell (by omega)).trans h.at1, (size_setChan _ _ _ _ _ _ _ _).trans hs, below_setChan h.hb (by omega) _ _ _ _ _ _⟩
  rw [comeA_push]
  exact heap_setChan _ _ _ _ _ _ _ _ (by omega)
/-- At the loop's head. -/
def ComI (w : World) (a : Option Addr) (n c : Nat) (at' : Int) (fresh : Bool) : Nat → Act → World → Prop := fun m (ac : Act) W => ∃ (j : Nat) (u5 u6 u7 u8 u9 u10 u11 u12 u13 u14 u15 u16 u17 u20 u21 u22 u23 u24 u25 u26 u27 u28 u29 u30 u31 u32 u33 : Value), m = n - j ∧ j ≤ n ∧ ac = { tmps := #[turnV a n c at' fresh, .pointer (some ⟨w.heap.size, 0, none⟩), .chan none, .int .i64 n, .chan (some (w.heap.size + 1)), u5, u6, u7, u8, u9, u10, u11, u12, u13, u14, u15, u16, u17, .int .i64 n, .int .i64 j, u20, u21, u22, u23, u24, u25, u26, u27, u28, u29, u30, u31, u32, u33], defers := [] } ∧ Cm w at' fresh n j W
theorem info_turn : (Try.prog.info? 135).map (fun i => (i.zero, i.size, i.bytes)) = some (some (.agg #[.int .i64 0, .bool false]), 2, 16) := by kernel_rfl
set_option maxHeartbeats 8000000 in
theorem coming_any {w : World} {a : Option Addr} {n : Nat} (c : Nat) (at' : Int) (fresh : Bool) (h1 : 1 ≤ n) (h30 : n ≤ 30) (a0 : 0 ≤ at') (a1 : at' < n) :
    Calls Try.prog 122 #[turnV a n c at' fresh] w fun e w' => ∃ ch, e = .returned (.chan (some ch)) ∧ w.heap.size ≤ ch ∧ ch < w'.heap.size ∧ w'.heap[ch]? = some (.chan (n + 1) (comeA n at' fresh n) true (n + 1) 0 false) ∧ Below w.heap.size w w' := by
  obtain ⟨i0, hi, hz0, hz1, hz2⟩ := info_parts info_turn
  have hmc : ∀ w : World, (Instr.makeChan 149 (.int .i64 ((n : Int) + 1))).run Try.prog w = .ok (.chan (some w.heap.size)) (w.alloc (.chan (n + 1) #[] false 0 0 false)) := fun w => by
    have := run_makeChan (P := Try.prog) (w := w) Try.underlying149 hi .i64 (n + 1) (by omega) (by rw [hz2]; omega)
    simpa using this
  have hni : (n : Int) ≤ 30 := by omega
  have hn1 : (1 : Int) ≤ (n : Int) := by omega
  refine calls_of_wpB Try.func122 rfl (fun b hk => ?_)
  simp only [Try.ntmps122, List.size_toArray, List.length_cons, List.length_nil, Nat.reduceAdd, Nat.reduceSub, Array.replicate_succ, Array.replicate_zero, List.push_toArray, List.append_toArray, List.nil_append, List.cons_append]
  refine wpB_seq_k fun K1 g1 => wpB_of ?_
  go_wp2
  refine wpB_seq_k fun K1 g1 => wpB_of ?_
  go_wp2
  refine wpB_seq_k fun K1 g1 => wpB_of ?_
  go_wp2
  refine wpB_seq_k fun K1 g1 => wpB_region ?_
  show wpL _ _ _ _ [0, 1, 2, 3, 4, 5, 6] _ _
  refine wpL_still (i := 0) (v := ?_) rfl rfl ?_ ?_
  rotate_left 1
  · (go_simp; with_reducible rfl)
  try simp only [Act.put, List.setIfInBounds_toArray, List.set_cons_zero, List.set_cons_succ, List.getElem_toArray, List.getElem_cons_succ, List.getElem_cons_zero]
  refine wpL_still (i := 1) (v := ?_) rfl rfl ?_ ?_
  rotate_left 1
  · (go_simp; with_reducible rfl)
  try simp only [Act.put, List.setIfInBounds_toArray, List.set_cons_zero, List.set_cons_succ, List.getElem_toArray, List.getElem_cons_succ, List.getElem_cons_zero]
  refine wpL_still (i := 2) (v := ?_) rfl rfl ?_ ?_
  rotate_left 1
  · (go_simp; with_reducible rfl)
  try simp only [Act.put, List.setIfInBounds_toArray, List.set_cons_zero, List.set_cons_succ, List.getElem_toArray, List.getElem_cons_succ, List.getElem_cons_zero]
  refine wpL_still (i := 3) (v := ?_) rfl rfl ?_ ?_
  rotate_left 1
  · (go_simp; with_reducible rfl)
  try simp only [Act.put, List.setIfInBounds_toArray, List.set_cons_zero, List.set_cons_succ, List.getElem_toArray, List.getElem_cons_succ, List.getElem_cons_zero]
  refine wpL_still (i := 4) (v := ?_) rfl rfl ?_ ?_
  rotate_left 1
  · (go_simp; with_reducible rfl)
  try simp only [Act.put, List.setIfInBounds_toArray, List.set_cons_zero, List.set_cons_succ, List.getElem_toArray, List.getElem_cons_succ, List.getElem_cons_zero]
  refine wpL_still (i := 5) (v := ?_) rfl rfl ?_ ?_
  rotate_left 1
  · (go_simp; with_reducible rfl)
  try simp only [Act.put, List.setIfInBounds_toArray, List.set_cons_zero, List.set_cons_succ, List.getElem_toArray, List.getElem_cons_succ, List.getElem_cons_zero]
  refine wpL_send (c := w.heap.size + 1) (cap := n + 1) (buf := #[]) (s := 0) (r := 0) (tm := false) (v := .agg #[.int .i64 at', .bool fresh]) (z := .tuple #[]) hk rfl rfl (by simp [execOp, scase, Act.eval]) (by have := heap_alloc_new (w.alloc (.cells #[.slice a n c, .int .i64 at', .bool fresh] 48)) (.chan (n + 1) #[] false 0 0 false); simpa using this) (by simp) ?_
  try simp only [Act.put, List.setIfInBounds_toArray, List.set_cons_zero, List.set_cons_succ, List.getElem_toArray, List.getElem_cons_succ, List.getElem_cons_zero]
  refine wpL_nil (g1 _ _ ?_)
  clear g1 K1
  obtain ⟨W1, hW1⟩ : ∃ W1, W1 = ((w.alloc (.cells #[.slice a n c, .int .i64 at', .bool fresh] 48)).alloc (.chan (n + 1) #[] false 0 0 false)).setChan (w.heap.size + 1) (n + 1) ((#[] : Array Value).push (.agg #[.int .i64 at', .bool fresh])) false (0 + 1) 0 false := ⟨_, rfl⟩
  rw [← hW1]
  have C1 : Cm w at' fresh n 0 W1 := by
    rw [hW1]
    refine ⟨?_, ?_, by rw [size_setChan]; simp, below_setChan (by go_grown) (by omega) _ _ _ _ _ _⟩
    · rw [heap_setChan _ _ _ _ _ _ _ _ (by simp)]
      rfl
    · rw [set_chan_cell (by omega)]
      go_simp
  clear hW1
  refine wpB_seq_k fun K2 g2 => ?_
  refine wpB_seq_k fun K3 g3 => wpB_of ?_
  go_wp2
  refine wpB_block ?_
  refine wpB_loop (ComI w a n c at' fresh) ?_ (n := n) ?_
  rotate_left 1
  · exact ⟨0, _, _, _, _, _, _, _, _, _, _, _, _, _, _, _, _, _, _, _, _, _, _, _, _, _, _, _, by omega, by omega, rfl, C1⟩
  · clear C1
    rintro m ac W ⟨j, u5, u6, u7, u8, u9, u10, u11, u12, u13, u14, u15, u16, u17, u20, u21, u22, u23, u24, u25, u26, u27, u28, u29, u30, u31, u32, u33, hm, hj, rfl, cm⟩
    have q1 := cm.at1
    have CM : Hid (Cm w at' fresh n j W) := cm
    clear cm
    by_cases hlt : j < n
    · have hlt' : (j : Int) < (n : Int) := by omega
      have hn0 : ¬ (n = 0) := by omega
      have hw1 : IntKind.i64.wrap (at' + 1) = at' + 1 := by simp only [IntKind.wrap_i64, wrap64]; omega
      have hw2 : IntKind.i64.wrap (at' + 1 + (j : Int)) = at' + 1 + (j : Int) := by simp only [IntKind.wrap_i64, wrap64]; omega
      have htm : (at' + 1 + (j : Int)).tmod (n : Int) = (at' + 1 + (j : Int)) % (n : Int) := Int.tmod_eq_emod_of_nonneg (by omega)
      refine wpB_seq_k fun K4 g4 => wpB_of ?_
      go_wp2
      refine wpB_seq_k fun K4 g4 => wpB_of ?_
      go_wp2
      refine wpB_seq_k fun K4 g4 => ?_
      refine wpB_block ?_
      refine wpB_seq_k fun K5 g5 => wpB_of ?_
      go_wp2
      refine wpB_region ?_
      show wpL _ _ _ _ [0, 1, 2, 3, 4, 5, 6, 7, 8, 9] _ _
      refine wpL_still (i := 0) (v := ?_) rfl rfl ?_ ?_
      rotate_left 1
      · (go_simp; with_reducible rfl)
      try simp only [Act.put, List.setIfInBounds_toArray, List.set_cons_zero, List.set_cons_succ, List.getElem_toArray, List.getElem_cons_succ, List.getElem_cons_zero]
      refine wpL_still (i := 1) (v := ?_) rfl rfl ?_ ?_
      rotate_left 1
      · (go_simp; with_reducible rfl)
      try simp only [Act.put, List.setIfInBounds_toArray, List.set_cons_zero, List.set_cons_succ, List.getElem_toArray, List.getElem_cons_succ, List.getElem_cons_zero]
      refine wpL_still (i := 2) (v := ?_) rfl rfl ?_ ?_
      rotate_left 1
      · (go_simp; with_reducible rfl)
      try simp only [Act.put, List.setIfInBounds_toArray, List.set_cons_zero, List.set_cons_succ, List.getElem_toArray, List.getElem_cons_succ, List.getElem_cons_zero]
      refine wpL_still (i := 3) (v := ?_) rfl rfl ?_ ?_
      rotate_left 1
      · (go_simp; with_reducible rfl)
      try simp only [Act.put, List.setIfInBounds_toArray, List.set_cons_zero, List.set_cons_succ, List.getElem_toArray, List.getElem_cons_succ, List.getElem_cons_zero]
      refine wpL_still (i := 4) (v := ?_) rfl rfl ?_ ?_
      rotate_left 1
      · (go_simp; with_reducible rfl)
      try simp only [Act.put, List.setIfInBounds_toArray, List.set_cons_zero, List.set_cons_succ, List.getElem_toArray, List.getElem_cons_succ, List.getElem_cons_zero]
      refine wpL_still (i := 5) (v := ?_) rfl rfl ?_ ?_
      rotate_left 1
      · (go_simp; with_reducible rfl)
      try simp only [Act.put, List.setIfInBounds_toArray, List.set_cons_zero, List.set_cons_succ, List.getElem_toArray, List.getElem_cons_succ, List.getElem_cons_zero]
      refine wpL_still (i := 6) (v := ?_) rfl rfl ?_ ?_
      rotate_left 1
      · (go_simp; with_reducible rfl)
      try simp only [Act.put, List.setIfInBounds_toArray, List.set_cons_zero, List.set_cons_succ, List.getElem_toArray, List.getElem_cons_succ, List.getElem_cons_zero]
      refine wpL_still (i := 7) (v := ?_) rfl rfl ?_ ?_
      rotate_left 1
      · (go_simp; with_reducible rfl)
      try simp only [Act.put, List.setIfInBounds_toArray, List.set_cons_zero, List.set_cons_succ, List.getElem_toArray, List.getElem_cons_succ, List.getElem_cons_zero]
      refine wpL_still (i := 8) (v := ?_) rfl rfl ?_ ?_
      rotate_left 1
      · (go_simp; with_reducible rfl)
      try simp only [Act.put, List.setIfInBounds_toArray, List.set_cons_zero, List.set_cons_succ, List.getElem_toArray, List.getElem_cons_succ, List.getElem_cons_zero]
      refine wpL_send (c := w.heap.size + 1) (cap := n + 1) (buf := comeA n at' fresh j) (s := j + 1) (r := 0) (tm := false) (v := .agg #[.int .i64 ((at' + 1 + (j : Int)) % (n : Int)), .bool true]) (z := .tuple #[]) hk rfl rfl (by simp [execOp, scase, Act.eval]) CM.out.ch (by rw [comeA_size]; omega) ?_
      try simp only [Act.put, List.setIfInBounds_toArray, List.set_cons_zero, List.set_cons_succ, List.getElem_toArray, List.getElem_cons_succ, List.getElem_cons_zero]
      refine wpL_nil ?_
      refine g4 _ _ (wpB_of ?_)
      have CN := CM.out.next
      go_wp2
      exact ⟨n - (j + 1), by omega, j + 1, _, _, _, _, _, _, _, _, _, _, _, _, _, _, _, _, _, _, _, _, _, _, _, _, _, _, _, rfl, by omega, rfl, CN⟩
    · have e : j = n := by omega
      subst e
      refine wpB_seq_k fun K4 g4 => wpB_of ?_
      go_wp2
      refine wpB_seq_k fun K4 g4 => wpB_of ?_
      go_wp2
      have hcl := fun ats ty => run_close_open (P := Try.prog) (w := W) ats ty CM.out.ch
      have hsz := CM.out.size
      refine wpB_of ?_
      go_wp2
      go_ret
      refine ⟨w.heap.size + 1, rfl, by omega, by simp; omega, ?_, ?_⟩
      · have hlt2 : w.heap.size + 1 < W.heap.size := by omega
        simp [hlt2]
      · exact below_setChan CM.out.hb (by omega) _ _ _ _ _ _
end Go.Proofs.Ytdgefdjgpneanad
