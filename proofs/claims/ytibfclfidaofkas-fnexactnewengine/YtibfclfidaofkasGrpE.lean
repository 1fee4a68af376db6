/- Lemmas on the way, of several texts: EqSmp, IntsLaw. -/
import Derived.Test.YtibfclfidaofkasGrpC
import Derived.Deep.RegionHeld3
namespace Go.Proofs.Ytibfclfidaofkas
open Go.ChangeShapes Go.WideShapes Go.ChangeAt Go.RowKit
set_option maxRecDepth 100000
set_option linter.unusedVariables false

theorem ret_b {f g : Bool} (h : f = g) : Ending.returned (.bool f) = .returned (.bool g) := by rw [h]
end Go.Proofs.Ytibfclfidaofkas
namespace Go.Proofs.Ytibfclfidaofkas
open Go.ChangeShapes Go.WideShapes Go.ChangeAt Go.RowKit
set_option maxRecDepth 100000
set_option linter.unusedVariables false

/-- A list of numbers that can be read: cells of old memory. -/
def ISmp (B : Nat) (w : World) (a : Option Addr) (xs : List Int) : Prop := ∀ i (h : i < xs.length), ∃ b off, a = some ⟨b, off, none⟩ ∧ b < B ∧ w.cell? ⟨b, off + i, none⟩ = some (.int .i64 xs[i])
theorem ISmp.at {B : Nat} {w w' : World} {a : Option Addr} {xs : List Int} (h : ISmp B w a xs) (hb : Below B w w') (i : Nat) (hi : i < xs.length) : ∃ b off, a = some ⟨b, off, none⟩ ∧ b < B ∧ w'.cell? ⟨b, off + i, none⟩ = some (.int .i64 xs[i]) := by
  obtain ⟨b, off, e, hl, c⟩ := h i hi
  exact ⟨b, off, e, hl, (hb.cell (by exact hl)).trans c⟩
theorem IFill.smp {w : World} {g n B : Nat} {xs : List Int} (f : IFill w g n xs xs.length) (h : g < B) : ISmp B w (some ⟨g, 0, none⟩) xs := fun i hi => ⟨g, 0, rfl, h, by rw [Nat.zero_add]; exact f.got i hi hi⟩
theorem ismp_nil (B : Nat) (w : World) (a : Option Addr) : ISmp B w a [] := fun i h => by cases h
theorem IV.smp {w : World} {lo : Nat} {v : Value} {xs : List Int} (h : IV w lo v xs) : ∃ a cap, v = .slice a xs.length cap ∧ ISmp w.heap.size w a xs := by
  rcases h with ⟨g, cap, rfl, h1, h2, f, hc⟩ | ⟨rfl, rfl⟩
  · exact ⟨_, _, rfl, f.smp h2⟩
  · exact ⟨none, 0, rfl, ismp_nil _ _ _⟩
set_option maxHeartbeats 1000000 in
theorem eqInts_any {w : World} {a b : Option Addr} (cap cap' : Nat) {xs ys : List Int} (ha : ISmp w.heap.size w a xs) (hb : ISmp w.heap.size w b ys) (hn : xs.length ≤ 4611686018427387904) :
    Calls Try.prog 111 #[.slice a xs.length cap, .slice b ys.length cap'] w fun e w' => e = .returned (.bool (decide (xs = ys))) ∧ Below w.heap.size w w' := by
  by_cases hl : xs.length = ys.length
  · rw [hl]
    have HL : Hid (xs.length = ys.length) := hl
    clear hl
    go_enter Try.func111, Try.ntmps111
    go_wp2
    go_loopw [5] (fun i wr => ∃ k : Nat, i = .int .i64 k ∧ k ≤ ys.length ∧ xs.take k = ys.take k ∧ Below w.heap.size w wr) (fun i _ => ys.length - (intOf i).toNat)
    case atStart => exact ⟨0, rfl, by omega, by simp, by go_grown⟩
    case round =>
      obtain ⟨k, rfl, hk, ht, hbw⟩ := hrel
      by_cases hlt2 : k < ys.length
      · have hlt : k < xs.length := by have := HL.out; omega
        obtain ⟨b1, o1, rfl, hb1, c0⟩ := ha.at hbw k hlt
        obtain ⟨b2, o2, rfl, hb2, d0⟩ := hb.at hbw k hlt2
        have hlt' : (k : Int) < (ys.length : Int) := by omega
        have hnn := hn
        have hly := HL.out
        rw [hly] at hnn
        clear hly
        have hk0 : (0 : Int) ≤ (k : Int) := by omega
        obtain ⟨p, hp⟩ : ∃ p, xs[k] = p := ⟨_, rfl⟩
        obtain ⟨q, hq⟩ : ∃ q, ys[k] = q := ⟨_, rfl⟩
        rw [hp] at c0
        rw [hq] at d0
        have HP : Hid (xs[k] = p) := hp
        have HQ : Hid (ys[k] = q) := hq
        clear hp hq
        by_cases hpq : p = q
        · subst hpq
          have HT : Hid (xs.take (k + 1) = ys.take (k + 1)) := by
            show xs.take (k + 1) = ys.take (k + 1)
            rw [List.take_succ_eq_append_getElem hlt, List.take_succ_eq_append_getElem hlt2, ht, HP.out, HQ.out]
          go_wp2
          go_quiet (fail)
          go_wp2
          go_roundw
          case rel => exact ⟨k + 1, by go_num, by omega, HT.out, below_drews hbw _⟩
          case measure => first | (simp [intOf]; done) | (simp [intOf]; omega)
        · have hpq' : (p == q) = false := by simp [hpq]
          go_wp2
          go_quiet (fail)
          go_wp2
          go_ret
          exact ⟨ret_b (decide_eq_false (fun e => hpq (by rw [← HP.out, ← HQ.out]; subst e; rfl))).symm, below_drews hbw _⟩
      · have e : k = ys.length := by omega
        subst e
        have hxy : xs = ys := by
          rw [List.take_length, ← HL.out, List.take_length] at ht; exact ht
        go_wp2
        go_ret
        exact ⟨ret_b (decide_eq_true hxy).symm, hbw⟩
  · have hlb : ((xs.length : Int) == (ys.length : Int)) = false := by simp; omega
    rw [decide_eq_false (fun e => hl (by rw [e]))]
    go_enter Try.func111, Try.ntmps111
    go_wp2
    go_ret
    exact ⟨rfl, by go_grown⟩
theorem eqI_any {w : World} {lo lo' : Nat} {v v' : Value} {xs ys : List Int} (ha : IV w lo v xs) (hb : IV w lo' v' ys) (hn : xs.length ≤ 4611686018427387904) :
    Calls Try.prog 111 #[v, v'] w fun e w' => e = .returned (.bool (decide (xs = ys))) ∧ Below w.heap.size w w' := by
  obtain ⟨a, c, rfl, h1⟩ := ha.smp
  obtain ⟨a', c', rfl, h2⟩ := hb.smp
  exact eqInts_any c c' h1 h2 hn
def marksI (k : Int) (n : Nat) : List Int := (List.range n).map fun (i : Nat) => k + (i : Int)
theorem marksI_length (k : Int) (n : Nat) : (marksI k n).length = n := by simp [marksI]
theorem marksI_get (k : Int) (n i : Nat) (h : i < (marksI k n).length) : (marksI k n)[i] = k + (i : Int) := by simp [marksI]
theorem IFill.again {w : World} {g n m : Nat} {xs : List Int} (f : IFill w g n xs m) (ys : List Int) : IFill w g n ys 0 := ⟨f.any, fun i hi hk => by omega⟩
theorem IFill.put {w : World} {g n k : Nat} {xs : List Int} (f : IFill w g n xs k) (hk : k < xs.length) (hn : xs.length ≤ n) : IFill (w.setCell ⟨g, k, none⟩ (.int .i64 xs[k])) g n xs (k + 1) where
  any := fun j hj => by
    refine ⟨?_, by simpa using (f.any j hj).2⟩
    obtain ⟨z, hz⟩ := (f.any j hj).1
    by_cases e : k = j
    · subst e
      exact ⟨_, set_same _ hz⟩
    · exact ⟨z, (World.cell?_setCell_other _ _ _ _ (fun e' => e (by injection e' with _ e' _))).trans hz⟩
  got := fun i hi hik => by
    by_cases e : k = i
    · subst e
      obtain ⟨z, hz⟩ := (f.any k (by omega)).1
      exact set_same _ hz
    · exact (World.cell?_setCell_other _ _ _ _ (fun e' => e (by injection e' with _ e' _))).trans (f.got i hi (by omega))
set_option maxHeartbeats 1000000 in
theorem markInts_any {w : World} {g n m : Nat} (cap : Nat) {xs : List Int} (k : Int) (f : IFill w g n xs m) (hg : g < w.heap.size) (hn : n ≤ 1048576) (k0 : 0 ≤ k) (k1 : k ≤ 1000000000) :
    Calls Try.prog 86 #[.slice (some ⟨g, 0, none⟩) n cap, .int .i64 k] w fun e w' => e = .returned (.int .i64 (k + n)) ∧ IFill w' g n (marksI k n) n ∧ Only g w w' := by
  go_enter Try.func86, Try.ntmps86
  go_wp2
  go_loopw [1, 5] (fun s i wr => ∃ j : Nat, i = .int .i64 j ∧ j ≤ n ∧ s = .int .i64 (k + (j : Int)) ∧ IFill wr g n (marksI k n) j ∧ Only g w wr) (fun _ i _ => n - (intOf i).toNat)
  case atStart => exact ⟨0, rfl, by omega, by simp, f.again _, Only.refl _ _⟩
  case round =>
    obtain ⟨j, rfl, hj, rfl, fr, hO⟩ := hrel
    by_cases hlt : j < n
    · obtain ⟨⟨z0, e0⟩, u0⟩ := fr.any j hlt
      have hlt' : (j : Int) < (n : Int) := by omega
      have hp := fr.put (k := j) (by rw [marksI_length]; exact hlt) (by rw [marksI_length]; omega)
      rw [marksI_get] at hp
      have HP : Hid (IFill (wr.setCell ⟨g, j, none⟩ (.int .i64 (k + (j : Int)))) g n (marksI k n) (j + 1)) := hp
      clear hp
      go_wp2
      exact ⟨⟨j + 1, by go_num, by omega, ret_v (by omega), HP.out, hO.setCell rfl _⟩, by simp [intOf]; omega⟩
    · have e : j = n := by omega
      subst e
      go_wp2
      go_ret
      exact ⟨rfl, fr, hO⟩
set_option maxHeartbeats 1000000 in
theorem heldInts_any {w : World} {g n : Nat} (cap : Nat) (k : Int) (f : IFill w g n (marksI k n) n) (hn : n ≤ 1048576) (k0 : 0 ≤ k) (k1 : k ≤ 1000000000) :
    Calls Try.prog 89 #[.slice (some ⟨g, 0, none⟩) n cap, .int .i64 k] w fun e w' => e = .returned (.int .i64 (k + n)) ∧ w' = w := by
  go_enter Try.func89, Try.ntmps89
  go_wp2
  go_loop [1, 5] (fun s i => ∃ j : Nat, i = .int .i64 j ∧ j ≤ n ∧ s = .int .i64 (k + (j : Int))) (fun _ i => n - (intOf i).toNat)
  case atStart => exact ⟨0, rfl, by omega, by simp⟩
  case round =>
    obtain ⟨j, rfl, hj, rfl⟩ := hrel
    by_cases hlt : j < n
    · have c0 := f.got j (by rw [marksI_length]; exact hlt) hlt
      rw [marksI_get] at c0
      have hlt' : (j : Int) < (n : Int) := by omega
      go_wp2
      go_round
      case rel => exact ⟨j + 1, by go_num, by omega, ret_v (by omega)⟩
      case measure => first | (simp [intOf]; done) | (simp [intOf]; omega)
    · have e : j = n := by omega
      subst e
      go_wp2
      go_ret
      exact ⟨rfl, rfl⟩
theorem markINone_any (k : Int) (w : World) : Calls Try.prog 86 #[.slice none 0 0, .int .i64 k] w fun e w' => e = .returned (.int .i64 k) ∧ w' = w := by
  go_enter Try.func86, Try.ntmps86
  go_wp2
  refine wp_loop_rounds 1 ?_
  rw [rounds_succ]
  go_wp2
  go_ret
  exact ⟨rfl, rfl⟩
theorem heldINone_any (k : Int) (w : World) : Calls Try.prog 89 #[.slice none 0 0, .int .i64 k] w fun e w' => e = .returned (.int .i64 k) ∧ w' = w := by
  go_enter Try.func89, Try.ntmps89
  go_wp2
  refine wp_loop_rounds 1 ?_
  rw [rounds_succ]
  go_wp2
  go_ret
  exact ⟨rfl, rfl⟩
theorem markI_any {w : World} {lo : Nat} {v : Value} {ys : List Int} (k : Int) (f : IV w lo v ys) (hn : ys.length ≤ 1048576) (k0 : 0 ≤ k) (k1 : k ≤ 1000000000) :
    Calls Try.prog 86 #[v, .int .i64 k] w fun e w' => e = .returned (.int .i64 (k + ys.length)) ∧ IV w' lo v (marksI k ys.length) ∧ OnlyO v.ownBlock w w' := by
  rcases f with ⟨g, cap, rfl, h1, h2, f, hc⟩ | ⟨rfl, rfl⟩
  · refine (markInts_any cap k f h2 hn k0 k1).mono ?_
    rintro e w' ⟨rfl, f', ho⟩
    refine ⟨rfl, .inl ⟨g, cap, by rw [marksI_length], h1, Nat.lt_of_lt_of_le h2 ho.size, ?_, by rw [marksI_length]; exact hc⟩, OnlyO.of_only ho⟩
    rw [marksI_length]
    exact f'
  · refine (markINone_any k w).mono ?_
    rintro e w' ⟨rfl, rfl⟩
    exact ⟨by simp, .inr ⟨rfl, rfl⟩, OnlyO.of_below (Below.refl _ _)⟩
theorem heldI_any {w : World} {lo n : Nat} {v : Value} (k : Int) (f : IV w lo v (marksI k n)) (hn : n ≤ 1048576) (k0 : 0 ≤ k) (k1 : k ≤ 1000000000) :
    Calls Try.prog 89 #[v, .int .i64 k] w fun e w' => e = .returned (.int .i64 (k + n)) ∧ Below w.heap.size w w' := by
  rcases f with ⟨g, cap, rfl, h1, h2, f, hc⟩ | ⟨rfl, hm⟩
  · rw [marksI_length] at f
    rw [marksI_length]
    refine (heldInts_any cap k f hn k0 k1).mono ?_
    rintro e w' ⟨rfl, rfl⟩
    exact ⟨rfl, Below.refl _ _⟩
  · have hn0 : n = 0 := by rw [← marksI_length k n, hm]; rfl
    subst hn0
    refine (heldINone_any k w).mono ?_
    rintro e w' ⟨rfl, rfl⟩
    exact ⟨by simp, Below.refl _ _⟩
end Go.Proofs.Ytibfclfidaofkas
