/- Lemmas on the way, of several texts: FlwLaw, FlwTo, ConLaw, FlwEq, FlwMark, FlwMarkT, ConMark, ConHeldF. -/
import Derived.Test.YtkohlmloobojfaaGreatGrpAD
import Derived.Deep.RegionHeld3
import Derived.Deep.DeepCutAuto
import Derived.OwnWalk
import Derived.LoopTactic
import Derived.Laws.OwnMore
namespace Go.Proofs.YtkohlmloobojfaaGreat
open Go.ChangeShapes Go.WideShapes Go.ChangeAt Go.RowKit
set_option maxRecDepth 100000
set_option linter.unusedVariables false
set_option linter.unusedSimpArgs false
/-- How many numbers the first k flows have. -/
def sumL (fs : List F8) : Nat → Nat
  | 0 => 0
  | k + 1 => sumL fs k + (match fs[k]? with | some f => f.2.2.length | none => 0)
theorem sumL_next {fs : List F8} {k : Nat} (h : k < fs.length) : sumL fs (k + 1) = sumL fs k + fs[k].2.2.length := by
  show sumL fs k + (match fs[k]? with | some f => f.2.2.length | none => 0) = _
  rw [List.getElem?_eq_getElem h]
theorem sumL_le (fs : List F8) (k : Nat) : ∀ d, sumL fs k ≤ sumL fs (k + d)
  | 0 => Nat.le_refl _
  | d + 1 => by
    have := sumL_le fs k d
    show sumL fs k ≤ sumL fs (k + d) + _
    omega
theorem sumL_mono (fs : List F8) {k m : Nat} (h : k ≤ m) : sumL fs k ≤ sumL fs m := by
  have := sumL_le fs k (m - k)
  rw [show k + (m - k) = m by omega] at this
  exact this
theorem szInt64S_gen (a : Option Addr) (n cap : Nat) (left : Int) (w : World) (hn : (n : Int) ≤ 9223372036854775807) (h0 : 0 ≤ left) (h1 : left ≤ 1048576) :
    Calls Tryz.prog 127 #[.slice a n cap, .int .i64 left] w fun e w' => e = .returned (.int .i64 (if (n : Int) ≤ left then left - n else -1)) ∧ w' = w := by
  by_cases h : (n : Int) ≤ left
  · have f : (0 : Int) ≤ left - (n : Int) := by omega
    rw [if_pos h]
    go_enter Tryz.func127, Tryz.ntmps127
    go_wp2
    go_ret
    exact ⟨rfl, rfl⟩
  · have f : left - (n : Int) < 0 := by omega
    rw [if_neg h]
    go_enter Tryz.func127, Tryz.ntmps127
    go_wp2
    go_ret
    exact ⟨rfl, rfl⟩
theorem info_int : (Tryz.prog.info? 2).map (fun i => (i.zero, i.size, i.bytes)) = some (some (.int .i64 0), 1, 8) := by kernel_rfl
theorem made_int (n j : Nat) (h : j < n * 1) : (madeCells (Value.int .i64 0).cells (n * 1)).toList[j]? = some (.int .i64 0) := by
  have hz : ∀ i : Nat, (#[Value.int .i64 0] : Array Value)[i % 1]! = .int .i64 0 := by
    intro i
    have : i % 1 = 0 := by omega
    rw [this]; rfl
  rw [Array.getElem?_toList]
  unfold madeCells
  rw [Array.getElem?_map, Array.getElem?_eq_getElem (by simpa using h)]
  show some _ = _
  rw [show ((Array.range (n * 1))[j]'(by simpa using h)) = j by simp]
  exact congrArg some (hz j)
theorem made_flow (n j : Nat) (h : j < n * 3) : ∃ z, (madeCells (Value.agg #[.int .i64 0, .int .i64 0, .slice none 0 0]).cells (n * 3)).toList[j]? = some z := by
  rw [Array.getElem?_toList]
  unfold madeCells
  rw [Array.getElem?_map, Array.getElem?_eq_getElem (by simpa using h)]
  exact ⟨_, rfl⟩
set_option maxHeartbeats 1000000 in
theorem toInt64S_any {w : World} {a : Option Addr} (cap : Nat) {xs : List Int} (h : ISmp w.heap.size w a xs) (hn : xs.length ≤ 1048576) :
    Calls Tryz.prog 134 #[.slice a xs.length cap] w fun e w' => ∃ g, e = .returned (.slice (some ⟨g, 0, none⟩) xs.length xs.length) ∧ w.heap.size ≤ g ∧ g < w'.heap.size ∧ IFill w' g xs.length xs xs.length ∧ Below w.heap.size w w' := by
  obtain ⟨i0, hi, hz0, hz1, hz2⟩ := info_parts info_int
  go_enter Tryz.func134, Tryz.ntmps134
  go_wp2_with (first
    | (at_make; refine wpList_make_full _ rfl _ _ 56 rfl w.heap.size 2 i0 _ 1 Tryz.underlying56 hi hz0 hz1 _ _ _ _ xs.length rfl rfl rfl rfl (by rw [hz2]; omega) (by unfold maxLen; omega) (Nat.le_refl _) ?_; intro w1 own1 gr1))
  have hb1 : Below w.heap.size w w1 := (Below.refl _ _).grown gr1 (Nat.le_refl _) (fun k hk => by cases hk)
  have hg1 : w.heap.size < w1.heap.size := (own1.lt _ rfl).2
  have f1 : IFill w1 w.heap.size xs.length xs 0 := ⟨fun j hj => ⟨⟨0, by
    have hc := own1.cellAt j (by omega)
    rw [hc]
    exact made_int _ j (by omega)⟩, own1.frozenAt j⟩, fun i hi hk => by omega⟩
  go_loopw [4] (fun i wr => ∃ k : Nat, i = .int .i64 k ∧ k ≤ xs.length ∧ IFill wr w.heap.size xs.length xs k ∧ w.heap.size < wr.heap.size ∧ Below w.heap.size w wr) (fun i _ => xs.length - (intOf i).toNat)
  case atStart => exact ⟨0, rfl, by omega, f1, hg1, hb1⟩
  case round =>
    obtain ⟨k, rfl, hk, f, hg, hb⟩ := hrel
    by_cases hlt : k < xs.length
    · obtain ⟨b, off, rfl, hbl, c0⟩ := h.at hb k hlt
      have hlt' : (k : Int) < (xs.length : Int) := by omega
      obtain ⟨⟨z0, e0⟩, u0⟩ := f.any k hlt
      have hp := f.put hlt (Nat.le_refl _)
      obtain ⟨x, hx⟩ : ∃ x, xs[k] = x := ⟨_, rfl⟩
      rw [hx] at c0 hp
      have HP : Hid (IFill (wr.setCell ⟨w.heap.size, k, none⟩ (.int .i64 x)) w.heap.size xs.length xs (k + 1)) := hp
      clear hx hp
      go_wp2
      exact ⟨⟨k + 1, by go_num, by omega, HP.out, by simp; omega, hb.setCell (Nat.le_refl _) _⟩, by simp [intOf]; omega⟩
    · have e : k = xs.length := by omega
      subst e
      go_wp2
      go_ret
      exact ⟨_, rfl, Nat.le_refl _, hg, f, hb⟩
theorem cells_three {w : World} {g : Nat} {a b c : Value} (h0 : w.cell? ⟨g, 0, none⟩ = some a) (h1 : w.cell? ⟨g, 1, none⟩ = some b) (h2 : w.cell? ⟨g, 2, none⟩ = some c) : ∀ j v, [a, b, c][j]? = some v → w.cell? ⟨g, j, none⟩ = some v := by
  intro j v hv
  match j, hv with
  | 0, hv => obtain rfl : a = v := by simpa using hv
             exact h0
  | 1, hv => obtain rfl : b = v := by simpa using hv
             exact h1
  | 2, hv => obtain rfl : c = v := by simpa using hv
             exact h2
theorem put3_zero {w : World} {g : Nat} (a b c : Value) {z0 z1 z2 : Value} (h0 : w.cell? ⟨g, 0, none⟩ = some z0) (h1 : w.cell? ⟨g, 1, none⟩ = some z1) (h2 : w.cell? ⟨g, 2, none⟩ = some z2) :
    ∀ j v, [a, b, c][j]? = some v → (((w.setCell ⟨g, 0, none⟩ a).setCell ⟨g, 1, none⟩ b).setCell ⟨g, 2, none⟩ c).cell? ⟨g, j, none⟩ = some v := by
  have h := put3_same (o := 0) a b c h0 h1 h2
  exact cells_three h.1 h.2.1 h.2.2
theorem IFill.far {w : World} {g n k : Nat} {xs : List Int} (f : IFill w g n xs k) {p : Addr} (v : Value) (h : p.block ≠ g) : IFill (w.setCell p v) g n xs k where
  any := fun j hj => ⟨by obtain ⟨z, hz⟩ := (f.any j hj).1; exact ⟨z, (set_far (by exact h)).trans hz⟩, by simpa using (f.any j hj).2⟩
  got := fun i hi hk => (set_far (by exact h)).trans (f.got i hi hk)
theorem el_at {g o n c b : Nat} (h : elB (.slice (some ⟨g, o, none⟩) n c) = some b) : b = g := by
  cases n with
  | zero => cases h
  | succ n => exact (Option.some.inj h).symm
def sumK (ks : List Kn) (k : Nat) : Nat := ((ks.take k).map fun c => c.xs.length).sum
theorem sumK_next {ks : List Kn} {k : Nat} (h : k < ks.length) : sumK ks (k + 1) = sumK ks k + ks[k].xs.length := by
  unfold sumK
  rw [List.take_succ_eq_append_getElem h, List.map_append, List.sum_append]
  simp
theorem sumK_le (ks : List Kn) (k : Nat) : ∀ d, sumK ks k ≤ sumK ks (k + d)
  | 0 => Nat.le_refl _
  | d + 1 => by
    refine Nat.le_trans (sumK_le ks k d) ?_
    by_cases h : k + d < ks.length
    · rw [show k + (d + 1) = k + d + 1 by omega, sumK_next h]
      omega
    · unfold sumK
      rw [List.take_of_length_le (by omega), List.take_of_length_le (by omega)]
      exact Nat.le_refl _
theorem sumK_mono (ks : List Kn) {k m : Nat} (h : k ≤ m) : sumK ks k ≤ sumK ks m := by
  have := sumK_le ks k (m - k)
  rwa [show k + (m - k) = m by omega] at this
theorem szConn_gen (c : Kn) (a : Option Addr) (n cap : Nat) (left : Int) (w : World) (hn : (n : Int) ≤ 9223372036854775807) (h0 : 0 ≤ left) (h1 : left ≤ 1048576) :
    Calls Tryz.prog 65 #[.agg #[.int .i64 c.id, .int .i64 c.lf, .int .i64 c.pl, .int .i64 c.k, .int .i64 c.wn, .int .i64 c.th, .int .i64 c.fl, .int .i64 c.ac, .int .i64 c.la, .int .i64 c.og, .int .i64 c.st, .int .i64 c.fr, .bool c.sl, .slice a n cap], .int .i64 left] w fun e w' => e = .returned (.int .i64 (if (n : Int) ≤ left then left - n else -1)) ∧ Below w.heap.size w w' := by
  by_cases h : (n : Int) ≤ left
  · have f : (0 : Int) ≤ left - (n : Int) := by omega
    rw [if_pos h]
    go_enter Tryz.func65, Tryz.ntmps65
    go_wp2_with (first | (go_at_call 127; refine (szInt64S_gen _ _ _ _ _ hn h0 h1).mono ?_; rintro e w2 ⟨rfl, rfl⟩; rw [if_pos h]))
    go_ret
    exact ⟨rfl, by go_grown⟩
  · rw [if_neg h]
    go_enter Tryz.func65, Tryz.ntmps65
    go_wp2_with (first | (go_at_call 127; refine (szInt64S_gen _ _ _ _ _ hn h0 h1).mono ?_; rintro e w2 ⟨rfl, rfl⟩; rw [if_neg h]))
    go_ret
    exact ⟨rfl, by go_grown⟩
set_option maxHeartbeats 2000000 in
theorem szConnS_gen {w : World} {a : Option Addr} (cap : Nat) {ks : List Kn} (left : Int) (h0 : 0 ≤ left) (h1 : left ≤ 1048576) (h : Kls w.heap.size w a ks) (hm : ks.length ≤ maxLen) (hs : ∀ c ∈ ks, c.xs.length ≤ maxLen) :
    Calls Tryz.prog 22 #[.slice a ks.length cap, .int .i64 left] w fun e w' => e = .returned (.int .i64 (if (ks.length : Int) + (sumK ks ks.length : Int) ≤ left then left - (ks.length : Int) - (sumK ks ks.length : Int) else -1)) ∧ Below w.heap.size w w' := by
  have hm' : (ks.length : Int) ≤ 9223372036854775807 := by unfold maxLen at hm; omega
  obtain ⟨r, hr⟩ : ∃ r : Int, (if (ks.length : Int) + (sumK ks ks.length : Int) ≤ left then left - (ks.length : Int) - (sumK ks ks.length : Int) else -1) = r := ⟨_, rfl⟩
  have HR : Hid ((if (ks.length : Int) + (sumK ks ks.length : Int) ≤ left then left - (ks.length : Int) - (sumK ks ks.length : Int) else -1) = r) := hr
  rw [hr]
  clear hr
  have rl : IntKind.i64.wrap (left - (ks.length : Int)) = left - (ks.length : Int) := by rw [IntKind.wrap_i64]; omega
  by_cases hn : (ks.length : Int) ≤ left
  · have f : (0 : Int) ≤ left - (ks.length : Int) := by omega
    go_enter Tryz.func22, Tryz.ntmps22
    go_wp2
    go_loopw [1, 5] (fun l i wr => ∃ k : Nat, i = .int .i64 k ∧ k ≤ ks.length ∧ l = .int .i64 (left - (ks.length : Int) - (sumK ks k : Int)) ∧ (ks.length : Int) + (sumK ks k : Int) ≤ left ∧ Below w.heap.size w wr) (fun _ i _ => ks.length - (intOf i).toNat)
    case atStart => exact ⟨0, rfl, by omega, by show _ = Value.int .i64 (left - (ks.length : Int) - (0 : Nat)); rw [Int.natCast_zero, Int.sub_zero], by show (ks.length : Int) + (0 : Nat) ≤ _; omega, Below.refl _ _⟩
    case round =>
      obtain ⟨k, rfl, hk, rfl, hle, hb⟩ := hrel
      by_cases hlt : k < ks.length
      · obtain ⟨b, off, sa, sc, rfl, hbl, c0, c1, _⟩ := h.at hb k hlt
        have hlt' : (k : Int) < (ks.length : Int) := by omega
        have hsk := hs _ (List.getElem_mem hlt)
        have hnx := sumK_next hlt
        have hmo := sumK_mono ks (show k + 1 ≤ ks.length by omega)
        obtain ⟨c, hc⟩ : ∃ c, ks[k] = c := ⟨_, rfl⟩
        rw [hc] at c0 c1 hsk hnx
        obtain ⟨m, hmm⟩ : ∃ m, c.xs.length = m := ⟨_, rfl⟩
        rw [hmm] at c1 hsk hnx
        obtain ⟨s, hss⟩ : ∃ s, sumK ks k = s := ⟨_, rfl⟩
        rw [hss] at hle hnx ⊢
        have d0 : wr.cell? ⟨b, off + k * 14, none⟩ = some (.int .i64 c.id) := c0 0 _ rfl
        have d1 : wr.cell? ⟨b, off + k * 14 + 1, none⟩ = some (.int .i64 c.lf) := c0 1 _ rfl
        have d2 : wr.cell? ⟨b, off + k * 14 + 2, none⟩ = some (.int .i64 c.pl) := c0 2 _ rfl
        have d3 : wr.cell? ⟨b, off + k * 14 + 3, none⟩ = some (.int .i64 c.k) := c0 3 _ rfl
        have d4 : wr.cell? ⟨b, off + k * 14 + 4, none⟩ = some (.int .i64 c.wn) := c0 4 _ rfl
        have d5 : wr.cell? ⟨b, off + k * 14 + 5, none⟩ = some (.int .i64 c.th) := c0 5 _ rfl
        have d6 : wr.cell? ⟨b, off + k * 14 + 6, none⟩ = some (.int .i64 c.fl) := c0 6 _ rfl
        have d7 : wr.cell? ⟨b, off + k * 14 + 7, none⟩ = some (.int .i64 c.ac) := c0 7 _ rfl
        have d8 : wr.cell? ⟨b, off + k * 14 + 8, none⟩ = some (.int .i64 c.la) := c0 8 _ rfl
        have d9 : wr.cell? ⟨b, off + k * 14 + 9, none⟩ = some (.int .i64 c.og) := c0 9 _ rfl
        have d10 : wr.cell? ⟨b, off + k * 14 + 10, none⟩ = some (.int .i64 c.st) := c0 10 _ rfl
        have d11 : wr.cell? ⟨b, off + k * 14 + 11, none⟩ = some (.int .i64 c.fr) := c0 11 _ rfl
        have d12 : wr.cell? ⟨b, off + k * 14 + 12, none⟩ = some (.bool c.sl) := c0 12 _ rfl
        have hl0 : (0 : Int) ≤ left - (ks.length : Int) - (s : Int) := by omega
        have hl1 : left - (ks.length : Int) - (s : Int) ≤ 1048576 := by omega
        have hmi : (m : Int) ≤ 9223372036854775807 := by unfold maxLen at hsk; omega
        have HN : Hid (sumK ks (k + 1) = s + m) := hnx
        have HM : Hid (sumK ks (k + 1) ≤ sumK ks ks.length) := hmo
        clear hmm hss hnx hmo hc c0
        by_cases hc : (m : Int) ≤ left - (ks.length : Int) - (s : Int)
        · have f0 : (0 : Int) ≤ left - (ks.length : Int) - (s : Int) - (m : Int) := by omega
          go_wp2_with (first | (go_at_call 65; refine (szConn_gen _ _ _ _ _ _ hmi hl0 hl1).mono ?_; rintro e w2 ⟨rfl, hb2⟩; rw [if_pos hc]))
          go_roundw
          case rel =>
            refine ⟨k + 1, by go_num, by omega, ?_, by rw [HN.out]; omega, below_step hb hb2⟩
            rw [HN.out]
            congr 1
            omega
          case measure => first | (simp [intOf]; done) | (simp [intOf]; omega)
        · go_wp2_with (first | (go_at_call 65; refine (szConn_gen _ _ _ _ _ _ hmi hl0 hl1).mono ?_; rintro e w2 ⟨rfl, hb2⟩; rw [if_neg hc]))
          go_ret
          exact ⟨congrArg (fun x => Ending.returned (.int .i64 x)) ((if_neg (by have := HN.out; have := HM.out; omega)).symm.trans HR.out), below_step hb hb2⟩
      · have e : k = ks.length := by omega
        subst e
        have HL : Hid ((ks.length : Int) + (sumK ks ks.length : Int) ≤ left) := hle
        clear hle
        go_wp2
        go_ret
        exact ⟨congrArg (fun x => Ending.returned (.int .i64 x)) ((if_pos HL.out).symm.trans HR.out), hb⟩
  · have f : left - (ks.length : Int) < 0 := by omega
    have e : r = -1 := HR.out.symm.trans (if_neg (by omega))
    subst e
    go_enter Tryz.func22, Tryz.ntmps22
    go_wp2
    go_ret
    exact ⟨rfl, Below.refl _ _⟩
theorem retB {f g : Bool} (h : f = g) : Ending.returned (.bool f) = .returned (.bool g) := by rw [h]
/-- Numbers from a place of a block on. -/
structure OFill (w : World) (g off n : Nat) (xs : List Int) (k : Nat) : Prop where
  any : ∀ j, j < n → (∃ z : Int, w.cell? ⟨g, off + j, none⟩ = some (.int .i64 z)) ∧ w.frozen? ⟨g, off + j, none⟩ = false
  got : ∀ i (h : i < xs.length), i < k → w.cell? ⟨g, off + i, none⟩ = some (.int .i64 xs[i])
theorem OFill.again {w : World} {g off n m : Nat} {xs : List Int} (f : OFill w g off n xs m) (ys : List Int) : OFill w g off n ys 0 := ⟨f.any, fun i hi hk => by omega⟩
theorem OFill.put {w : World} {g off n k : Nat} {xs : List Int} (f : OFill w g off n xs k) (hk : k < xs.length) (hn : xs.length ≤ n) : OFill (w.setCell ⟨g, off + k, none⟩ (.int .i64 xs[k])) g off n xs (k + 1) where
  any := fun j hj => by
    refine ⟨?_, by simpa using (f.any j hj).2⟩
    obtain ⟨z, hz⟩ := (f.any j hj).1
    by_cases e : k = j
    · subst e
      exact ⟨_, set_same _ hz⟩
    · exact ⟨z, (set_other (by omega)).trans hz⟩
  got := fun i hi hik => by
    by_cases e : k = i
    · subst e
      obtain ⟨z, hz⟩ := (f.any k (by omega)).1
      exact set_same _ hz
    · exact (set_other (by omega)).trans (f.got i hi (by omega))
set_option maxHeartbeats 1000000 in
theorem markOff_any {w : World} {g off n m : Nat} (cap : Nat) {xs : List Int} (k : Int) (f : OFill w g off n xs m) (hg : g < w.heap.size) (hn : n ≤ 1048576) (k0 : 0 ≤ k) (k1 : k ≤ 1000000000) :
    Calls Tryz.prog 110 #[.slice (some ⟨g, off, none⟩) n cap, .int .i64 k] w fun e w' => e = .returned (.int .i64 (k + n)) ∧ OFill w' g off n (marksI k n) n ∧ Only g w w' := by
  go_enter Tryz.func110, Tryz.ntmps110
  go_wp2
  go_loopw [1, 5] (fun s i wr => ∃ j : Nat, i = .int .i64 j ∧ j ≤ n ∧ s = .int .i64 (k + (j : Int)) ∧ OFill wr g off n (marksI k n) j ∧ Only g w wr) (fun _ i _ => n - (intOf i).toNat)
  case atStart => exact ⟨0, rfl, by omega, by simp, f.again _, Only.refl _ _⟩
  case round =>
    obtain ⟨j, rfl, hj, rfl, fr, hO⟩ := hrel
    by_cases hlt : j < n
    · obtain ⟨⟨z0, e0⟩, u0⟩ := fr.any j hlt
      have hlt' : (j : Int) < (n : Int) := by omega
      have hp := fr.put (k := j) (by rw [marksI_length]; exact hlt) (by rw [marksI_length]; omega)
      rw [marksI_get] at hp
      have HP : Hid (OFill (wr.setCell ⟨g, off + j, none⟩ (.int .i64 (k + (j : Int)))) g off n (marksI k n) (j + 1)) := hp
      clear hp
      go_wp2
      exact ⟨⟨j + 1, by go_num, by omega, ret_v (by omega), HP.out, hO.setCell rfl _⟩, by simp [intOf]; omega⟩
    · have e : j = n := by omega
      subst e
      go_wp2
      go_ret
      exact ⟨rfl, fr, hO⟩
set_option maxHeartbeats 1000000 in
theorem heldOff_any {w : World} {g off n : Nat} (cap : Nat) (k : Int) (f : OFill w g off n (marksI k n) n) (hn : n ≤ 1048576) (k0 : 0 ≤ k) (k1 : k ≤ 1000000000) :
    Calls Tryz.prog 113 #[.slice (some ⟨g, off, none⟩) n cap, .int .i64 k] w fun e w' => e = .returned (.int .i64 (k + n)) ∧ w' = w := by
  go_enter Tryz.func113, Tryz.ntmps113
  go_wp2
  go_loop [1, 5] (fun s i => ∃ j : Nat, i = .int .i64 j ∧ j ≤ n ∧ s = .int .i64 (k + (j : Int))) (fun _ i => n - (intOf i).toNat)
  case atStart => exact ⟨0, rfl, by omega, by simp⟩
  case round =>
    obtain ⟨j, rfl, hj, rfl⟩ := hrel
    by_cases hlt : j < n
    · have c0 := f.got j (by rw [marksI_length]; exact hlt) hlt
      rw [marksI_get] at c0
      have hlt' : (j : Int) < (n : Int) := by omega
      go_wp2
      go_round
      case rel => exact ⟨j + 1, by go_num, by omega, ret_v (by omega)⟩
      case measure => first | (simp [intOf]; done) | (simp [intOf]; omega)
    · have e : j = n := by omega
      subst e
      go_wp2
      go_ret
      exact ⟨rfl, rfl⟩
theorem markNil_any (a : Option Addr) (cap : Nat) (k : Int) (w : World) (k0 : 0 ≤ k) (k1 : k ≤ 1000000000) : Calls Tryz.prog 110 #[.slice a 0 cap, .int .i64 k] w fun e w' => e = .returned (.int .i64 k) ∧ w' = w := by
  go_enter Tryz.func110, Tryz.ntmps110
  go_wp2
  refine wp_loop_rounds 1 ?_
  rw [rounds_succ]
  go_wp2
  go_ret
  exact ⟨rfl, rfl⟩
theorem heldNil_any (a : Option Addr) (cap : Nat) (k : Int) (w : World) (k0 : 0 ≤ k) (k1 : k ≤ 1000000000) : Calls Tryz.prog 113 #[.slice a 0 cap, .int .i64 k] w fun e w' => e = .returned (.int .i64 k) ∧ w' = w := by
  go_enter Tryz.func113, Tryz.ntmps113
  go_wp2
  refine wp_loop_rounds 1 ?_
  rw [rounds_succ]
  go_wp2
  go_ret
  exact ⟨rfl, rfl⟩
theorem markIO_any {w : World} {lo hi : Nat} {v : Value} {xs : List Int} (k : Int) (h : IO w lo hi v xs) (hn : xs.length ≤ 1048576) (k0 : 0 ≤ k) (k1 : k ≤ 1000000000) :
    Calls Tryz.prog 110 #[v, .int .i64 k] w fun e w' => e = .returned (.int .i64 (k + xs.length)) ∧ IO w' lo hi v (marksI k xs.length) ∧ OnlyO (elB v) w w' := by
  obtain ⟨a, cap, rfl, hc, h⟩ := h
  by_cases h0 : xs = []
  · subst h0
    refine (markNil_any a cap k w k0 k1).mono ?_
    rintro e w' ⟨rfl, rfl⟩
    exact ⟨by simp, ⟨a, cap, rfl, hc, .inl rfl⟩, OnlyO.of_below (Below.refl _ _)⟩
  · rcases h with h | ⟨g, off, rfl, h1, h2, h3, h4⟩
    · exact absurd h h0
    · refine (markOff_any cap k (xs := xs) (m := xs.length) ⟨fun j hj => ⟨⟨_, (h4 j hj).1⟩, (h4 j hj).2⟩, fun i hi _ => (h4 i hi).1⟩ h3 hn k0 k1).mono ?_
      rintro e w' ⟨rfl, f', ho⟩
      have eb : elB (.slice (some ⟨g, off, none⟩) xs.length cap) = some g := by
        cases xs with
        | nil => exact absurd rfl h0
        | cons x r => rfl
      refine ⟨rfl, ⟨_, cap, by rw [marksI_length], by rw [marksI_length]; exact hc, .inr ⟨g, off, rfl, h1, h2, Nat.lt_of_lt_of_le h3 ho.size, fun i hi => ⟨f'.got i hi (by rw [marksI_length] at hi; exact hi), (f'.any i (by rw [marksI_length] at hi; exact hi)).2⟩⟩⟩, ?_⟩
      rw [eb]
      exact OnlyO.of_only ho
theorem heldIO_any {w : World} {lo hi n : Nat} {v : Value} (k : Int) (h : IO w lo hi v (marksI k n)) (hn : n ≤ 1048576) (k0 : 0 ≤ k) (k1 : k ≤ 1000000000) :
    Calls Tryz.prog 113 #[v, .int .i64 k] w fun e w' => e = .returned (.int .i64 (k + n)) ∧ w' = w := by
  obtain ⟨a, cap, rfl, hc, h⟩ := h
  rw [marksI_length]
  rcases h with h | ⟨g, off, rfl, h1, h2, h3, h4⟩
  · have hn0 : n = 0 := by rw [← marksI_length k n, h]; rfl
    subst hn0
    refine (heldNil_any a cap k w k0 k1).mono ?_
    rintro e w' ⟨rfl, rfl⟩
    exact ⟨by simp, rfl⟩
  · exact heldOff_any cap k ⟨fun j hj => ⟨⟨_, (h4 j (by rw [marksI_length]; exact hj)).1⟩, (h4 j (by rw [marksI_length]; exact hj)).2⟩, fun i hi _ => (h4 i hi).1⟩ hn k0 k1
/-! Flows -/
def kAt (k : Int) (fs : List F8) (i : Nat) : Int := k + 2 * (i : Int) + (sumL fs i : Int)
def markF (k : Int) (fs : List F8) : List F8 := fs.mapIdx fun i f => (kAt k fs i, kAt k fs i + 1, marksI (kAt k fs i + 2) f.2.2.length)
theorem markF_length (k : Int) (fs : List F8) : (markF k fs).length = fs.length := by simp [markF]
theorem markF_get (k : Int) (fs : List F8) (i : Nat) (h : i < (markF k fs).length) (h' : i < fs.length) : (markF k fs)[i] = (kAt k fs i, kAt k fs i + 1, marksI (kAt k fs i + 2) fs[i].2.2.length) := by simp [markF]
theorem kAt_next {k : Int} {fs : List F8} {i : Nat} (h : i < fs.length) : kAt k fs (i + 1) = kAt k fs i + 2 + (fs[i].2.2.length : Int) := by
  unfold kAt
  rw [sumL_next h]
  omega
/-- The first i of A, then the others of B. -/
def mix (A B : List F8) (i : Nat) : List F8 := A.take i ++ B.drop i
theorem mix_length {A B : List F8} (h : A.length = B.length) {i : Nat} (hi : i ≤ B.length) : (mix A B i).length = B.length := by
  unfold mix
  rw [List.length_append, List.length_take, List.length_drop]
  omega
theorem mix_zero (A B : List F8) : mix A B 0 = B := by simp [mix]
theorem mix_all {A B : List F8} (h : A.length = B.length) : mix A B B.length = A := by
  unfold mix
  rw [List.take_of_length_le (by omega), List.drop_eq_nil_of_le (Nat.le_refl _), List.append_nil]
theorem mix_at {A B : List F8} (h : A.length = B.length) {i : Nat} (hi : i < B.length) (h' : i < (mix A B i).length) : (mix A B i)[i] = B[i] := by
  have e : (mix A B i)[i]? = B[i]? := by
    unfold mix
    rw [List.getElem?_append_right (by rw [List.length_take]; omega), List.getElem?_drop]
    congr 1
    rw [List.length_take]
    omega
  rw [List.getElem?_eq_getElem h', List.getElem?_eq_getElem hi] at e
  exact Option.some.inj e
theorem mix_set {A B : List F8} (h : A.length = B.length) {i : Nat} (hi : i < B.length) (ha : i < A.length) : (mix A B i).set i A[i] = mix A B (i + 1) := by
  unfold mix
  rw [List.set_append_right _ _ (by rw [List.length_take]; omega), List.drop_eq_getElem_cons hi, List.take_succ_eq_append_getElem ha, List.append_assoc]
  congr 1
  rw [show i - (A.take i).length = 0 by rw [List.length_take]; omega]
  rfl
theorem kAt_nil (k : Int) : kAt k [] 0 = k := by show k + 2 * (0 : Int) + (0 : Int) = k; omega
/-- A connection that is marked from K on. -/
def mk1 (K : Int) (n : Nat) : Kn := ⟨K, K + 1, K + 1 + 1, K + 1 + 1 + 1, K + 1 + 1 + 1 + 1, K + 1 + 1 + 1 + 1 + 1, K + 1 + 1 + 1 + 1 + 1 + 1, K + 1 + 1 + 1 + 1 + 1 + 1 + 1, K + 1 + 1 + 1 + 1 + 1 + 1 + 1 + 1, K + 1 + 1 + 1 + 1 + 1 + 1 + 1 + 1 + 1, K + 1 + 1 + 1 + 1 + 1 + 1 + 1 + 1 + 1 + 1, K + 1 + 1 + 1 + 1 + 1 + 1 + 1 + 1 + 1 + 1 + 1, (K + 1 + 1 + 1 + 1 + 1 + 1 + 1 + 1 + 1 + 1 + 1 + 1) % 3 == 0, marksI (K + 13) n⟩
def mvs (K : Int) : List Value := [.int .i64 (K), .int .i64 (K + 1), .int .i64 (K + 1 + 1), .int .i64 (K + 1 + 1 + 1), .int .i64 (K + 1 + 1 + 1 + 1), .int .i64 (K + 1 + 1 + 1 + 1 + 1), .int .i64 (K + 1 + 1 + 1 + 1 + 1 + 1), .int .i64 (K + 1 + 1 + 1 + 1 + 1 + 1 + 1), .int .i64 (K + 1 + 1 + 1 + 1 + 1 + 1 + 1 + 1), .int .i64 (K + 1 + 1 + 1 + 1 + 1 + 1 + 1 + 1 + 1), .int .i64 (K + 1 + 1 + 1 + 1 + 1 + 1 + 1 + 1 + 1 + 1), .int .i64 (K + 1 + 1 + 1 + 1 + 1 + 1 + 1 + 1 + 1 + 1 + 1), .bool ((K + 1 + 1 + 1 + 1 + 1 + 1 + 1 + 1 + 1 + 1 + 1 + 1) % 3 == 0)]
def kAtK (k : Int) (ks : List Kn) (i : Nat) : Int := k + 13 * (i : Int) + (sumK ks i : Int)
def markK (k : Int) (ks : List Kn) : List Kn := ks.mapIdx fun i c => mk1 (kAtK k ks i) c.xs.length
theorem markK_length (k : Int) (ks : List Kn) : (markK k ks).length = ks.length := by simp [markK]
theorem markK_get (k : Int) (ks : List Kn) (i : Nat) (h : i < (markK k ks).length) (h' : i < ks.length) : (markK k ks)[i] = mk1 (kAtK k ks i) ks[i].xs.length := by simp [markK]
theorem kAtK_next {k : Int} {ks : List Kn} {i : Nat} (h : i < ks.length) : kAtK k ks (i + 1) = kAtK k ks i + 13 + (ks[i].xs.length : Int) := by
  unfold kAtK
  rw [sumK_next h]
  omega
theorem kAtK_nil (k : Int) : kAtK k [] 0 = k := by show k + 13 * (0 : Int) + (0 : Int) = k; omega
theorem kAtK_pos {k : Int} {ks : List Kn} (k0 : 0 ≤ k) (i : Nat) : 0 ≤ kAtK k ks i := by unfold kAtK; omega
/-- The first i of A, then the others of B. -/
def mixK (A B : List Kn) (i : Nat) : List Kn := A.take i ++ B.drop i
theorem mixK_length {A B : List Kn} (h : A.length = B.length) {i : Nat} (hi : i ≤ B.length) : (mixK A B i).length = B.length := by
  unfold mixK
  rw [List.length_append, List.length_take, List.length_drop]
  omega
theorem mixK_zero (A B : List Kn) : mixK A B 0 = B := by simp [mixK]
theorem mixK_all {A B : List Kn} (h : A.length = B.length) : mixK A B B.length = A := by
  unfold mixK
  rw [List.take_of_length_le (by omega), List.drop_eq_nil_of_le (Nat.le_refl _), List.append_nil]
theorem mixK_at {A B : List Kn} (h : A.length = B.length) {i : Nat} (hi : i < B.length) (h' : i < (mixK A B i).length) : (mixK A B i)[i] = B[i] := by
  have e : (mixK A B i)[i]? = B[i]? := by
    unfold mixK
    rw [List.getElem?_append_right (by rw [List.length_take]; omega), List.getElem?_drop]
    congr 1
    rw [List.length_take]
    omega
  rw [List.getElem?_eq_getElem h', List.getElem?_eq_getElem hi] at e
  exact Option.some.inj e
theorem mixK_set {A B : List Kn} (h : A.length = B.length) {i : Nat} (hi : i < B.length) (ha : i < A.length) : (mixK A B i).set i A[i] = mixK A B (i + 1) := by
  unfold mixK
  rw [List.set_append_right _ _ (by rw [List.length_take]; omega), List.drop_eq_getElem_cons hi, List.take_succ_eq_append_getElem ha, List.append_assoc]
  congr 1
  rw [show i - (A.take i).length = 0 by rw [List.length_take]; omega]
  rfl
theorem KO.turn {w w' : World} {lo hi g n i : Nat} {vs : List Value} {ks : List Kn} (f : KO w lo hi g n vs ks) (hi' : i < ks.length) (hv : i < vs.length) {c : Kn} {v : Value} (hs : w.heap.size ≤ w'.heap.size)
    (hb : ∀ b, lo ≤ b → b < hi → b ≠ g → elB vs[i] ≠ some b → w'.heap[b]? = w.heap[b]?) (hc : ∀ j, j < i * 14 ∨ i * 14 + 13 < j → w'.cell? ⟨g, j, none⟩ = w.cell? ⟨g, j, none⟩) (hf : ∀ j, w'.frozen? ⟨g, j, none⟩ = w.frozen? ⟨g, j, none⟩)
    (c0 : ∀ j u, c.cs[j]? = some u → w'.cell? ⟨g, i * 14 + j, none⟩ = some u) (c1 : w'.cell? ⟨g, i * 14 + 13, none⟩ = some v) (ho : IO w' lo hi v c.xs) (he : ∀ b, elB v = some b → elB vs[i] = some b) :
    KO w' lo hi g n (vs.set i v) (ks.set i c) := by
  have le := f.le
  refine ⟨f.g0, f.g1, Nat.le_trans f.top hs, by simp [f.len], by simp [f.le], fun j hj => ⟨?_, (hf j).trans (f.any j hj).2⟩, fun k hk hk' => ?_, fun k hk hk' => ?_, fun k hk => ?_, fun k j hk hj hne b e => ?_⟩
  · by_cases e0 : j < i * 14 ∨ i * 14 + 13 < j
    · obtain ⟨z, hz⟩ := (f.any j hj).1
      exact ⟨z, (hc j e0).trans hz⟩
    · by_cases e1 : j = i * 14 + 13
      · subst e1; exact ⟨_, c1⟩
      · obtain ⟨u, hu⟩ : ∃ u, c.cs[j - i * 14]? = some u := ⟨_, List.getElem?_eq_getElem (by rw [Kn.len]; omega)⟩
        have := c0 _ u hu
        rw [show i * 14 + (j - i * 14) = j by omega] at this
        exact ⟨u, this⟩
  · rw [List.getElem_set, List.getElem_set]
    by_cases e : i = k
    · subst e
      rw [if_pos rfl, if_pos rfl]
      exact ⟨c0, c1⟩
    · rw [if_neg e, if_neg e]
      obtain ⟨k0, k1⟩ := f.got k (by simpa using hk) (by simpa using hk')
      exact ⟨fun j u hu => (hc _ (by have := (List.getElem?_eq_some_iff.1 hu).1; rw [Kn.len] at this; omega)).trans (k0 j u hu), (hc _ (by omega)).trans k1⟩
  · rw [List.getElem_set, List.getElem_set]
    by_cases e : i = k
    · subst e
      rw [if_pos rfl, if_pos rfl]
      exact ho
    · rw [if_neg e, if_neg e]
      have kv : k < vs.length := by simpa using hk'
      have o := f.own k (by simpa using hk) kv
      exact o.same hs (fun b eb => hb b (o.el eb).1 (o.el eb).2.1 (fun e' => f.far k kv (by rw [eb, e'])) (fun e' => f.apart i k hv kv e b e' eb))
  · rw [List.getElem_set]
    by_cases e : i = k
    · rw [if_pos e]
      intro e'
      exact f.far i hv (he g e')
    · rw [if_neg e]
      exact f.far k (by simpa using hk)
  · rw [List.getElem_set] at e ⊢
    by_cases e1 : i = k
    · subst e1
      rw [if_pos rfl] at e
      rw [if_neg hne]
      exact f.apart i j hv (by simpa using hj) hne b (he b e)
    · rw [if_neg e1] at e
      by_cases e2 : i = j
      · rw [if_pos e2]
        intro e'
        exact f.apart k i (by simpa using hk) hv (by omega) b e (he b e')
      · rw [if_neg e2]
        exact f.apart k j (by simpa using hk) (by simpa using hj) hne b e
set_option maxHeartbeats 8000000 in
theorem heldConns_any {w : World} {lo hi g : Nat} {vs : List Value} {ks : List Kn} (cap : Nat) (k : Int) (f : KO w lo hi g ks.length vs (markK k ks)) (hn : ks.length + sumK ks ks.length ≤ 1048576) (k0 : 0 ≤ k) (k1 : k ≤ 100000000) :
    Calls Tryz.prog 50 #[.slice (some ⟨g, 0, none⟩) ks.length cap, .int .i64 k] w fun e w' => e = .returned (.int .i64 (kAtK k ks ks.length)) ∧ w' = w := by
  have hML := markK_length k ks
  have hni : (ks.length : Int) ≤ 1048576 := by omega
  go_enter Tryz.func50, Tryz.ntmps50
  go_wp2
  go_loop [1, 5] (fun s i => ∃ j : Nat, i = .int .i64 j ∧ j ≤ ks.length ∧ s = .int .i64 (kAtK k ks j)) (fun _ i => ks.length - (intOf i).toNat)
  case atStart => exact ⟨0, rfl, by omega, by show _ = Value.int .i64 (k + 13 * (0 : Int) + (0 : Int)); congr 1; omega⟩
  case round =>
    obtain ⟨j, rfl, hj, rfl⟩ := hrel
    by_cases hlt : j < ks.length
    · have hlt' : (j : Int) < (ks.length : Int) := by omega
      have hm : j < (markK k ks).length := by rw [hML]; exact hlt
      have hv : j < vs.length := by rw [f.len]; exact hm
      obtain ⟨cz, c13⟩ := f.got j hm hv
      have ho := f.own j hm hv
      rw [markK_get k ks j hm hlt] at cz ho
      have hmo := sumK_mono ks (show j + 1 ≤ ks.length by omega)
      rw [sumK_next hlt] at hmo
      have hk2 := kAtK_next (k := k) hlt
      have hkb : k ≤ kAtK k ks j ∧ kAtK k ks j ≤ 200000000 := by unfold kAtK; omega
      obtain ⟨K, hK⟩ : ∃ K, kAtK k ks j = K := ⟨_, rfl⟩
      rw [hK] at hk2 hkb cz ho ⊢
      obtain ⟨xs, hx⟩ : ∃ xs, ks[j].xs = xs := ⟨_, rfl⟩
      rw [hx] at cz ho hmo hk2
      have ho' : IO w lo hi vs[j] (marksI (K + 13) xs.length) := ho
      obtain ⟨va, hva⟩ : ∃ va, vs[j] = va := ⟨_, rfl⟩
      rw [hva] at c13 ho'
      have HK2 : Hid (kAtK k ks (j + 1) = K + 13 + (xs.length : Int)) := hk2
      have hxl : xs.length ≤ 1048576 := by omega
      have hkb0 := hkb.1
      have hkb1 := hkb.2
      have hpos : ¬ (K + 13 + (xs.length : Int) < 0) := by omega
      have d0 : w.cell? ⟨g, j * 14, none⟩ = some (.int .i64 (K)) := cz 0 _ rfl
      have d1 : w.cell? ⟨g, j * 14 + 1, none⟩ = some (.int .i64 (K + 1)) := cz 1 _ rfl
      have d2 : w.cell? ⟨g, j * 14 + 2, none⟩ = some (.int .i64 (K + 1 + 1)) := cz 2 _ rfl
      have d3 : w.cell? ⟨g, j * 14 + 3, none⟩ = some (.int .i64 (K + 1 + 1 + 1)) := cz 3 _ rfl
      have d4 : w.cell? ⟨g, j * 14 + 4, none⟩ = some (.int .i64 (K + 1 + 1 + 1 + 1)) := cz 4 _ rfl
      have d5 : w.cell? ⟨g, j * 14 + 5, none⟩ = some (.int .i64 (K + 1 + 1 + 1 + 1 + 1)) := cz 5 _ rfl
      have d6 : w.cell? ⟨g, j * 14 + 6, none⟩ = some (.int .i64 (K + 1 + 1 + 1 + 1 + 1 + 1)) := cz 6 _ rfl
      have d7 : w.cell? ⟨g, j * 14 + 7, none⟩ = some (.int .i64 (K + 1 + 1 + 1 + 1 + 1 + 1 + 1)) := cz 7 _ rfl
      have d8 : w.cell? ⟨g, j * 14 + 8, none⟩ = some (.int .i64 (K + 1 + 1 + 1 + 1 + 1 + 1 + 1 + 1)) := cz 8 _ rfl
      have d9 : w.cell? ⟨g, j * 14 + 9, none⟩ = some (.int .i64 (K + 1 + 1 + 1 + 1 + 1 + 1 + 1 + 1 + 1)) := cz 9 _ rfl
      have d10 : w.cell? ⟨g, j * 14 + 10, none⟩ = some (.int .i64 (K + 1 + 1 + 1 + 1 + 1 + 1 + 1 + 1 + 1 + 1)) := cz 10 _ rfl
      have d11 : w.cell? ⟨g, j * 14 + 11, none⟩ = some (.int .i64 (K + 1 + 1 + 1 + 1 + 1 + 1 + 1 + 1 + 1 + 1 + 1)) := cz 11 _ rfl
      have d12 : w.cell? ⟨g, j * 14 + 12, none⟩ = some (.bool ((K + 1 + 1 + 1 + 1 + 1 + 1 + 1 + 1 + 1 + 1 + 1 + 1) % 3 == 0)) := cz 12 _ rfl
      clear hva hx hK hk2 hkb hmo ho cz
      go_wp2_with (first | (go_at_call 113; rw [show K + 1 + 1 + 1 + 1 + 1 + 1 + 1 + 1 + 1 + 1 + 1 + 1 + 1 = K + 13 by omega]; refine (heldIO_any (K + 13) ho' hxl (by omega) (by omega)).mono ?_; rintro e w3 ⟨rfl, rfl⟩))
      go_round
      case rel => exact ⟨j + 1, by go_num, by omega, by rw [HK2.out]⟩
      case measure => first | (simp [intOf]; done) | (simp [intOf]; omega)
    · have e : j = ks.length := by omega
      subst e
      go_wp2
      go_ret
      exact ⟨rfl, rfl⟩
end Go.Proofs.YtkohlmloobojfaaGreat
