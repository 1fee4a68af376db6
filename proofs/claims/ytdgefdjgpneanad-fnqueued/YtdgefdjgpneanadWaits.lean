/- What spec.Waiting and impl.Waiting answer. -/
import Derived.Test.YtdgefdjgpneanadSpecTurn
import Derived.Test.YtdgefdjgpneanadImplTurn
namespace Go.Proofs.Ytdgefdjgpneanad
open Go.ChangeShapes Go.WideShapes Go.ChangeAt Go.RowKit
set_option maxRecDepth 100000
set_option linter.unusedVariables false
set_option linter.unusedSimpArgs false

theorem retW {x y : Int} (h : x = y) : Ending.returned (.int .i64 x) = .returned (.int .i64 y) := by rw [h]
set_option maxHeartbeats 4000000 in
theorem specWaiting_any {w : World} {a : Option Addr} (c : Nat) {fs : List F8} (at' : Int) (fresh : Bool) (h : Fls w.heap.size w a fs) (hm : fs.length ≤ 4611686018427387904) (hl : ∀ f ∈ fs, f.2.2.length ≤ 4611686018427387904) :
    Calls Try.prog 29 #[turnV a fs.length c at' fresh] w fun e w' => e = .returned (.int .i64 (waitOf fs at' fresh)) ∧ Below w.heap.size w w' := by
  obtain ⟨v, hv⟩ : ∃ v, v = w.alloc (.cells #[.slice a fs.length c, .int .i64 at', .bool fresh] 48) := ⟨_, rfl⟩
  have nb : Below w.heap.size w v := by rw [hv]; exact newB _ _
  have KV : Hid (Cells v [(w.heap.size, 0, .slice a fs.length c), (w.heap.size, 1, .int .i64 at'), (w.heap.size, 2, .bool fresh)]) := by rw [hv]; exact ⟨⟨by simp, by go_simp⟩, ⟨by simp, by go_simp⟩, ⟨by simp, by go_simp⟩, trivial⟩
  have ⟨⟨zk0, k0⟩, ⟨zk1, k1⟩, ⟨zk2, k2⟩, _⟩ := KV.out
  cases ht : turnsB fs at' fresh
  · have HW : Hid (waitOf fs at' fresh = -1) := by show waitOf fs at' fresh = -1; unfold waitOf; rw [ht]; rfl
    have HT : Hid (turnsB fs at' fresh = false) := ht
    rw [HW.out]
    go_enter Try.func29, Try.ntmps29
    go_upto_region 1 with (fail)
    rw [← hv]
    clear hv
    go_wp2_with (first | (go_at_call 30; refine (specTurnsOk_any c at' fresh (h.here nb) hm hl).mono ?_; rintro e w2 ⟨rfl, hb2⟩; rw [HT.out]))
    go_ret
    exact ⟨rfl, below_step nb hb2⟩
  · have HW : Hid (waitOf fs at' fresh = waitTo fs fs.length) := by show waitOf fs at' fresh = _; unfold waitOf; rw [if_pos ht]
    have HT : Hid (turnsB fs at' fresh = true) := ht
    have hok := turns_ok ht
    have hl30 : (fs.length : Int) ≤ 30 := by have := hok.l1; omega
    have HOK : Hid (TurnsOk fs at' fresh) := hok
    clear hok ht
    rw [HW.out]
    go_enter Try.func29, Try.ntmps29
    go_upto_region 1 with (fail)
    rw [← hv]
    clear hv
    go_wp2_with (first | (go_at_call 30; refine (specTurnsOk_any c at' fresh (h.here nb) hm hl).mono ?_; rintro e w2 ⟨rfl, hb2⟩; rw [HT.out]; have hb3 := below_step nb hb2; have ⟨⟨zj0, j0⟩, _⟩ := Cells.next hb2 KV.out))
    have FH := h.here hb3
    clear k0 k1 k2 zk0 zk1 zk2 KV h nb hb2
    go_loop [3, 4] (fun s i => ∃ (k : Nat) (x : Int), i = .int .i64 k ∧ k ≤ fs.length ∧ s = .int .i64 x ∧ Hid (x = waitTo fs k)) (fun _ i => fs.length - (intOf i).toNat)
    case atStart => exact ⟨0, 0, rfl, by omega, rfl, rfl⟩
    case round =>
      obtain ⟨k, x, rfl, hk, rfl, HX⟩ := hrel
      by_cases hlt : k < fs.length
      · have hlt' : (k : Int) < (fs.length : Int) := by omega
        obtain ⟨b, off, sa, sc, rfl, hbl, c0, c1, c2, m1⟩ := FH k hlt
        have hfk := HOK.out.flow k hlt
        have hwk := waitTo_in HOK.out.flow k (by omega)
        have hnx := waitTo_next hlt
        obtain ⟨f, hf⟩ : ∃ f, fs[k] = f := ⟨_, rfl⟩
        rw [hf] at c0 c1 c2 m1 hfk hnx
        clear hf
        obtain ⟨q, d, xs⟩ := f
        simp only at c0 c1 c2 m1 hnx
        have hx0 : 0 ≤ x := by rw [HX.out]; exact hwk.1
        have hx1 : x ≤ 4500000 := by rw [HX.out]; omega
        have hl1 : (xs.length : Int) ≤ 100 := by have : xs.length ≤ 100 := hfk.len; omega
        have HSG : Hid (allSg xs = true) := hfk.seg
        have HNX : Hid (waitTo fs (k + 1) = x + sumTo xs xs.length) := by rw [HX.out]; exact hnx
        clear hfk hwk hnx
        go_wp2
        go_loop [3, 5] (fun s i => ∃ (j : Nat) (y : Int), i = .int .i64 j ∧ j ≤ xs.length ∧ s = .int .i64 y ∧ Hid (y = x + sumTo xs j)) (fun _ i => xs.length - (intOf i).toNat)
        case atStart => exact ⟨0, x, rfl, by omega, rfl, (Int.add_zero _).symm⟩
        case round =>
          obtain ⟨j, y, rfl, hj, rfl, HY⟩ := hrel
          have hs := sumTo_in HSG.out j hj
          have hy0 : 0 ≤ y := by rw [HY.out]; omega
          have hy1 : y ≤ 5000000 := by rw [HY.out]; omega
          clear hs
          by_cases hlj : j < xs.length
          · have hlj' : (j : Int) < (xs.length : Int) := by omega
            obtain ⟨bs, os, rfl, hbs, d0⟩ := m1 j hlj
            have hz := sg_at HSG.out j hlj
            have hn2 := sumTo_next hlj
            obtain ⟨z, hzz⟩ : ∃ z, xs[j] = z := ⟨_, rfl⟩
            rw [hzz] at d0 hz hn2
            clear hzz
            have hz0 := hz.1
            have hz1 := hz.2
            have HN2 : Hid (y + z = x + sumTo xs (j + 1)) := by
              show y + z = x + sumTo xs (j + 1)
              rw [hn2, HY.out]
              omega
            clear hz hn2
            go_wp2
            go_round
            case rel => exact ⟨j + 1, y + z, by go_num, by omega, rfl, HN2⟩
            case measure => first | (simp [intOf]; done) | (simp [intOf]; omega)
          · have e : j = xs.length := by omega
            subst e
            have HN3 : Hid (y = waitTo fs (k + 1)) := by
              show y = waitTo fs (k + 1)
              rw [HNX.out, HY.out]
            go_wp2
            go_round
            case rel => exact ⟨k + 1, y, by go_num, by omega, rfl, HN3⟩
            case measure => first | (simp [intOf]; done) | (simp [intOf]; omega)
      · have e : k = fs.length := by omega
        subst e
        go_wp2
        go_ret
        exact ⟨retW HX.out, hb3⟩
set_option maxHeartbeats 4000000 in
theorem iWaiting_any {w : World} {a : Option Addr} (c : Nat) {fs : List F8} (at' : Int) (fresh : Bool) (h : Fls w.heap.size w a fs) (hm : fs.length ≤ 4611686018427387904) (hl : ∀ f ∈ fs, f.2.2.length ≤ 4611686018427387904) :
    Calls Try.prog 28 #[turnV a fs.length c at' fresh] w fun e w' => e = .returned (.int .i64 (waitOf fs at' fresh)) ∧ Below w.heap.size w w' := by
  obtain ⟨v, hv⟩ : ∃ v, v = w.alloc (.cells #[.slice a fs.length c, .int .i64 at', .bool fresh] 48) := ⟨_, rfl⟩
  have nb : Below w.heap.size w v := by rw [hv]; exact newB _ _
  have KV : Hid (Cells v [(w.heap.size, 0, .slice a fs.length c), (w.heap.size, 1, .int .i64 at'), (w.heap.size, 2, .bool fresh)]) := by rw [hv]; exact ⟨⟨by simp, by go_simp⟩, ⟨by simp, by go_simp⟩, ⟨by simp, by go_simp⟩, trivial⟩
  have ⟨⟨zk0, k0⟩, ⟨zk1, k1⟩, ⟨zk2, k2⟩, _⟩ := KV.out
  cases ht : turnsB fs at' fresh
  · have HW : Hid (waitOf fs at' fresh = -1) := by show waitOf fs at' fresh = -1; unfold waitOf; rw [ht]; rfl
    have HT : Hid (turnsB fs at' fresh = false) := ht
    rw [HW.out]
    go_enter Try.func28, Try.ntmps28
    go_upto_region 1 with (fail)
    rw [← hv]
    clear hv
    go_wp2_with (first | (go_at_call 32; refine (iTurnsOk_any c at' fresh (h.here nb) hm hl).mono ?_; rintro e w2 ⟨rfl, hb2⟩; rw [HT.out]))
    go_ret
    exact ⟨rfl, below_step nb hb2⟩
  · have HW : Hid (waitOf fs at' fresh = waitTo fs fs.length) := by show waitOf fs at' fresh = _; unfold waitOf; rw [if_pos ht]
    have HT : Hid (turnsB fs at' fresh = true) := ht
    have hok := turns_ok ht
    have hl30 : (fs.length : Int) ≤ 30 := by have := hok.l1; omega
    have HOK : Hid (TurnsOk fs at' fresh) := hok
    clear hok ht
    rw [HW.out]
    go_enter Try.func28, Try.ntmps28
    go_upto_region 1 with (fail)
    rw [← hv]
    clear hv
    go_upto_region 5 with (first | (go_at_call 32; refine (iTurnsOk_any c at' fresh (h.here nb) hm hl).mono ?_; rintro e w2 ⟨rfl, hb2⟩; rw [HT.out]; have hb3 := below_step nb hb2; have ⟨⟨zj0, j0⟩, _⟩ := Cells.next hb2 KV.out))
    clear k0 k1 k2 zk0 zk1 zk2 KV nb hb2 j0 zj0
    go_loopw [3, 14] (fun s i wr => ∃ (k : Nat) (x : Int), i = .int .i64 k ∧ k ≤ fs.length ∧ s = .int .i64 x ∧ Hid (x = waitTo fs k) ∧ Below w.heap.size w wr) (fun _ i _ => fs.length - (intOf i).toNat)
    case atStart => exact ⟨0, 0, rfl, by omega, rfl, rfl, hb3⟩
    case round =>
      clear hb3
      obtain ⟨k, x, rfl, hk, rfl, HX, ho⟩ := hrel
      by_cases hlt : k < fs.length
      · have hlt' : (k : Int) < (fs.length : Int) := by omega
        obtain ⟨b, off, sa, sc, rfl, hbl, c0, c1, c2, m1⟩ := h.here ho k hlt
        have hfk := HOK.out.flow k hlt
        have hwk := waitTo_in HOK.out.flow k (by omega)
        have hnx := waitTo_next hlt
        obtain ⟨f, hf⟩ : ∃ f, fs[k] = f := ⟨_, rfl⟩
        rw [hf] at c0 c1 c2 m1 hfk hnx
        clear hf
        obtain ⟨q, d, xs⟩ := f
        simp only at c0 c1 c2 m1 hnx
        have hx0 : 0 ≤ x := by rw [HX.out]; exact hwk.1
        have hx1 : x ≤ 4500000 := by rw [HX.out]; omega
        have hl1 : (xs.length : Int) ≤ 100 := by have : xs.length ≤ 100 := hfk.len; omega
        have HSG : Hid (allSg xs = true) := hfk.seg
        have HNX : Hid (waitTo fs (k + 1) = x + sumTo xs xs.length) := by rw [HX.out]; exact hnx
        clear hfk hwk hnx
        go_upto_region 8 with (fail)
        have hoA := below_step ho (newB wr (.cells #[.int .i64 q, .int .i64 d, .slice sa xs.length sc] 61))
        have m2 := m1.here (newB wr (.cells #[.int .i64 q, .int .i64 d, .slice sa xs.length sc] 61))
        obtain ⟨v4, hv⟩ : ∃ v, v = wr.alloc (.cells #[.int .i64 q, .int .i64 d, .slice sa xs.length sc] 61) := ⟨_, rfl⟩
        rw [← hv] at hoA m2 ⊢
        clear hv
        go_loop [3, 21] (fun s i => ∃ (j : Nat) (y : Int), i = .int .i64 j ∧ j ≤ xs.length ∧ s = .int .i64 y ∧ Hid (y = x + sumTo xs j)) (fun _ i => xs.length - (intOf i).toNat)
        case atStart => exact ⟨0, x, rfl, by omega, rfl, (Int.add_zero _).symm⟩
        case round =>
          obtain ⟨j, y, rfl, hj, rfl, HY⟩ := hrel
          have hs := sumTo_in HSG.out j hj
          have hy0 : 0 ≤ y := by rw [HY.out]; omega
          have hy1 : y ≤ 5000000 := by rw [HY.out]; omega
          clear hs
          by_cases hlj : j < xs.length
          · have hlj' : (j : Int) < (xs.length : Int) := by omega
            obtain ⟨bs, os, rfl, hbs, d0⟩ := m2 j hlj
            have hz := sg_at HSG.out j hlj
            have hn2 := sumTo_next hlj
            obtain ⟨z, hzz⟩ : ∃ z, xs[j] = z := ⟨_, rfl⟩
            rw [hzz] at d0 hz hn2
            clear hzz
            have hz0 := hz.1
            have hz1 := hz.2
            have HN2 : Hid (y + z = x + sumTo xs (j + 1)) := by
              show y + z = x + sumTo xs (j + 1)
              rw [hn2, HY.out]
              omega
            clear hz hn2
            go_wp2
            go_round
            case rel => exact ⟨j + 1, y + z, by go_num, by omega, rfl, HN2⟩
            case measure => first | (simp [intOf]; done) | (simp [intOf]; omega)
          · have e : j = xs.length := by omega
            subst e
            have HN3 : Hid (y = waitTo fs (k + 1)) := by
              show y = waitTo fs (k + 1)
              rw [HNX.out, HY.out]
            go_wp2
            go_roundw
            case rel => exact ⟨k + 1, y, by go_num, by omega, rfl, HN3, hoA⟩
            case measure => first | (simp [intOf]; done) | (simp [intOf]; omega)
      · have e : k = fs.length := by omega
        subst e
        go_wp2
        go_ret
        exact ⟨retW HX.out, ho⟩
end Go.Proofs.Ytdgefdjgpneanad
