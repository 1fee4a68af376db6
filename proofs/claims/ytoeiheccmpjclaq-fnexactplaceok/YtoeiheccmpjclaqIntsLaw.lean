/- The laws' comparisons and marks of lists of numbers. -/
import Derived.Test.YtoeiheccmpjclaqInts
import Derived.Test.YtoeiheccmpjclaqMarkSmp
import Derived.Test.YtoeiheccmpjclaqEqSmp
import Derived.Test.YtoeiheccmpjclaqKept
import Derived.Test.YtoeiheccmpjclaqWok
namespace Go.Proofs.Ytoeiheccmpjclaq
open Go.ChangeShapes Go.WideShapes Go.ChangeAt Go.RowKit
set_option maxRecDepth 100000
set_option linter.unusedVariables false

/-- A list of numbers that can be read: cells of old memory. -/
def ISmp (B : Nat) (w : World) (a : Option Addr) (xs : List Int) : Prop := ∀ i (h : i < xs.length), ∃ b off, a = some ⟨b, off, none⟩ ∧ b < B ∧ w.cell? ⟨b, off + i, none⟩ = some (.int .i64 xs[i])
theorem ISmp.at {B : Nat} {w w' : World} {a : Option Addr} {xs : List Int} (h : ISmp B w a xs) (hb : Below B w w') (i : Nat) (hi : i < xs.length) : ∃ b off, a = some ⟨b, off, none⟩ ∧ b < B ∧ w'.cell? ⟨b, off + i, none⟩ = some (.int .i64 xs[i]) := by
  obtain ⟨b, off, e, hl, c⟩ := h i hi
  exact ⟨b, off, e, hl, (hb.cell (by exact hl)).trans c⟩
theorem IFill.smp {w : World} {g n B : Nat} {xs : List Int} (f : IFill w g n xs xs.length) (h : g < B) : ISmp B w (some ⟨g, 0, none⟩) xs := fun i hi => ⟨g, 0, rfl, h, by rw [Nat.zero_add]; exact f.got i hi hi⟩
theorem ismp_nil (B : Nat) (w : World) (a : Option Addr) : ISmp B w a [] := fun i h => by cases h
theorem IV.smp {w : World} {lo : Nat} {v : Value} {xs : List Int} (h : IV w lo v xs) : ∃ a cap, v = .slice a xs.length cap ∧ ISmp w.heap.size w a xs := by
  rcases h with ⟨g, cap, rfl, h1, h2, f, hc⟩ | ⟨rfl, rfl⟩
  · exact ⟨_, _, rfl, f.smp h2⟩
  · exact ⟨none, 0, rfl, ismp_nil _ _ _⟩
set_option maxHeartbeats 1000000 in
theorem eqInts_any {w : World} {a b : Option Addr} (cap cap' : Nat) {xs ys : List Int} (ha : ISmp w.heap.size w a xs) (hb : ISmp w.heap.size w b ys) (hn : xs.length ≤ 4611686018427387904) :
    Calls Try.prog 59 #[.slice a xs.length cap, .slice b ys.length cap'] w fun e w' => e = .returned (.bool (decide (xs = ys))) ∧ Below w.heap.size w w' := by
  by_cases hl : xs.length = ys.length
  · rw [hl]
    have HL : Hid (xs.length = ys.length) := hl
    clear hl
    go_enter Try.func59, Try.ntmps59
    go_wp2
    go_loopw [5] (fun i wr => ∃ k : Nat, i = .int .i64 k ∧ k ≤ ys.length ∧ xs.take k = ys.take k ∧ Below w.heap.size w wr) (fun i _ => ys.length - (intOf i).toNat)
    case atStart => exact ⟨0, rfl, by omega, by simp, by go_grown⟩
    case round =>
      obtain ⟨k, rfl, hk, ht, hbw⟩ := hrel
      by_cases hlt2 : k < ys.length
      · have hlt : k < xs.length := by have := HL.out; omega
        obtain ⟨b1, o1, rfl, hb1, c0⟩ := ha.at hbw k hlt
        obtain ⟨b2, o2, rfl, hb2, d0⟩ := hb.at hbw k hlt2
        have hlt' : (k : Int) < (ys.length : Int) := by omega
        have hnn := hn
        have hly := HL.out
        rw [hly] at hnn
        clear hly
        have hk0 : (0 : Int) ≤ (k : Int) := by omega
        obtain ⟨p, hp⟩ : ∃ p, xs[k] = p := ⟨_, rfl⟩
        obtain ⟨q, hq⟩ : ∃ q, ys[k] = q := ⟨_, rfl⟩
        rw [hp] at c0
        rw [hq] at d0
        have HP : Hid (xs[k] = p) := hp
        have HQ : Hid (ys[k] = q) := hq
        clear hp hq
        by_cases hpq : p = q
        · subst hpq
          have HT : Hid (xs.take (k + 1) = ys.take (k + 1)) := by
            show xs.take (k + 1) = ys.take (k + 1)
            rw [List.take_succ_eq_append_getElem hlt, List.take_succ_eq_append_getElem hlt2, ht, HP.out, HQ.out]
          go_wp2
          go_quiet (fail)
          go_wp2
          go_roundw
          case rel => exact ⟨k + 1, by go_num, by omega, HT.out, below_drews hbw _⟩
          case measure => first | (simp [intOf]; done) | (simp [intOf]; omega)
        · have hpq' : (p == q) = false := by simp [hpq]
          go_wp2
          go_quiet (fail)
          go_wp2
          go_ret
          exact ⟨ret_b (decide_eq_false (fun e => hpq (by rw [← HP.out, ← HQ.out]; subst e; rfl))).symm, below_drews hbw _⟩
      · have e : k = ys.length := by omega
        subst e
        have hxy : xs = ys := by
          rw [List.take_length, ← HL.out, List.take_length] at ht; exact ht
        go_wp2
        go_ret
        exact ⟨ret_b (decide_eq_true hxy).symm, hbw⟩
  · have hlb : ((xs.length : Int) == (ys.length : Int)) = false := by simp; omega
    rw [decide_eq_false (fun e => hl (by rw [e]))]
    go_enter Try.func59, Try.ntmps59
    go_wp2
    go_ret
    exact ⟨rfl, by go_grown⟩
theorem eqI_any {w : World} {lo lo' : Nat} {v v' : Value} {xs ys : List Int} (ha : IV w lo v xs) (hb : IV w lo' v' ys) (hn : xs.length ≤ 4611686018427387904) :
    Calls Try.prog 59 #[v, v'] w fun e w' => e = .returned (.bool (decide (xs = ys))) ∧ Below w.heap.size w w' := by
  obtain ⟨a, c, rfl, h1⟩ := ha.smp
  obtain ⟨a', c', rfl, h2⟩ := hb.smp
  exact eqInts_any c c' h1 h2 hn
def marksI (k : Int) (n : Nat) : List Int := (List.range n).map fun (i : Nat) => k + (i : Int)
theorem marksI_length (k : Int) (n : Nat) : (marksI k n).length = n := by simp [marksI]
theorem marksI_get (k : Int) (n i : Nat) (h : i < (marksI k n).length) : (marksI k n)[i] = k + (i : Int) := by simp [marksI]
theorem IFill.again {w : World} {g n m : Nat} {xs : List Int} (f : IFill w g n xs m) (ys : List Int) : IFill w g n ys 0 := ⟨f.any, fun i hi hk => by omega⟩
theorem IFill.put {w : World} {g n k : Nat} {xs : List Int} (f : IFill w g n xs k) (hk : k < xs.length) (hn : xs.length ≤ n) : IFill (w.setCell ⟨g, k, none⟩ (.int .i64 xs[k])) g n xs (k + 1) where
  any := fun j hj => by
    refine ⟨?_, by simpa using (f.any j hj).2⟩
    obtain ⟨z, hz⟩ := (f.any j hj).1
    by_cases e : k = j
    · subst e
      exact ⟨_, set_same _ hz⟩
    · exact ⟨z, (World.cell?_setCell_other _ _ _ _ (fun e' => e (by injection e' with _ e' _))).trans hz⟩
  got := fun i hi hik => by
    by_cases e : k = i
    · subst e
      obtain ⟨z, hz⟩ := (f.any k (by omega)).1
      exact set_same _ hz
    · exact (World.cell?_setCell_other _ _ _ _ (fun e' => e (by injection e' with _ e' _))).trans (f.got i hi (by omega))
end Go.Proofs.Ytoeiheccmpjclaq
