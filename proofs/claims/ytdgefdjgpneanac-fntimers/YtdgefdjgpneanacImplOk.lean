/- What impl.WheelOk answers. -/
import Derived.Test.YtdgefdjgpneanacImplSort
import Derived.Test.YtdgefdjgpneanacImplOrd
import Derived.Test.YtdgefdjgpneanacGrpC
namespace Go.Proofs.Ytdgefdjgpneanac
open Go.ChangeShapes Go.WideShapes Go.ChangeAt Go.RowKit Go.Sort
set_option linter.unusedVariables false
set_option maxRecDepth 100000

theorem iid_any (x : Int) (w : World) : Calls Try.prog 112 #[.int .i64 x] w fun e w' => e = .returned (.bool (idB x)) ∧ w' = w := by
  go_enter Try.func112, Try.ntmps112
  go_wp2_with (first | (go_at_call 66; refine (iwithin_any _ _ _ _).mono ?_; rintro e w2 ⟨rfl, rfl⟩))
  go_ret
  exact ⟨rfl, rfl⟩
set_option maxHeartbeats 1000000 in
theorem mayHold_any (now p q : Int) (a : Option Addr) (n cap : Nat) (w : World) : Calls Try.prog 70 #[.agg #[.int .i64 now, .slice a n cap], .agg #[.int .i64 p, .int .i64 q]] w fun e w' => e = .returned (.bool (timB now (p, q))) ∧ RowKit.Below w.heap.size w w' := by
  unfold timB
  simp only
  cases h1 : idB p
  · rw [Bool.false_and, Bool.false_and]
    go_enter Try.func70, Try.ntmps70
    go_wp2_with (first
      | (go_at_call 112; refine (iid_any _ _).mono ?_; rintro e w2 ⟨rfl, rfl⟩; rw [h1]))
    go_ret
    exact ⟨rfl, by go_grown⟩
  · cases h2 : timeB q
    · rw [Bool.and_false, Bool.false_and]
      go_enter Try.func70, Try.ntmps70
      go_wp2_with (first
        | (go_at_call 112; refine (iid_any _ _).mono ?_; rintro e w2 ⟨rfl, rfl⟩; rw [h1])
        | (go_at_call 54; refine (itime_any _ _).mono ?_; rintro e w2 ⟨rfl, rfl⟩; rw [h2]))
      go_ret
      exact ⟨rfl, by go_grown⟩
    · rw [Bool.and_true, Bool.true_and]
      generalize hd : decide (now < q) = d
      go_enter Try.func70, Try.ntmps70
      go_wp2_with (first
        | (go_at_call 112; refine (iid_any _ _).mono ?_; rintro e w2 ⟨rfl, rfl⟩; rw [h1])
        | (go_at_call 54; refine (itime_any _ _).mono ?_; rintro e w2 ⟨rfl, rfl⟩; rw [h2]))
      go_ret
      exact ⟨rfl, by go_grown⟩
/-! The mathematics -/
def IdsApart (xs : List (Int × Int)) : Prop := (xs.map Prod.fst).Nodup
theorem ids_iff (xs : List (Int × Int)) : IdsApart xs ↔ ∀ i j (hi : i < xs.length) (hj : j < xs.length), i < j → xs[i].1 ≠ xs[j].1 := by
  unfold IdsApart List.Nodup
  rw [List.pairwise_iff_getElem]
  constructor
  · intro h i j hi hj hij
    have := h i j (by simpa using hi) (by simpa using hj) hij
    simpa using this
  · intro h i j hi hj hij
    have := h i j (by simpa using hi) (by simpa using hj) hij
    simpa using this
theorem apart_ids {ys : List (Int × Int)} (ho : InOrd (fun p q => cmpI p.1 q.1) ys) : ApartTo ys ys.length ↔ IdsApart ys := by
  rw [ids_iff]
  constructor
  · intro h i j hi hj hij
    have h1 := h i (i + 1) hi (by omega) rfl (by omega)
    have h2 := ho i (i + 1) hi (by omega) (by omega)
    rw [cmp_neg] at h2
    by_cases e : i + 1 = j
    · subst e
      exact h1
    · have h3 := ho (i + 1) j (by omega) hj (by omega)
      rw [cmp_neg] at h3
      omega
  · intro h i j hi hj e _
    exact h i j hi hj (by omega)
theorem ids_perm {xs ys : List (Int × Int)} (h : ys.Perm xs) : IdsApart ys ↔ IdsApart xs := (h.map Prod.fst).nodup_iff
/-- Right, by its parts. -/
theorem wok_iff {now : Int} {xs : List (Int × Int)} (h1 : timeB now = true) (h2 : xs.length ≤ 200) (h3 : ∀ i (h : i < xs.length), timB now xs[i] = true) : WOk now xs ↔ (OrdFrom xs 0 ∧ IdsApart xs) := by
  constructor
  · rintro ⟨_, _, hw⟩
    refine ⟨fun i j hi hj e _ => ?_, (ids_iff xs).2 fun i j hi hj hij => (hw j hj hj).2.2 i hi hij⟩
    have := (hw j hj hj).2.1 i hi e.symm
    rw [byT_neg]
    rw [bef_iff] at this
    rw [bef_iff]
    omega
  · rintro ⟨ho, hi⟩
    rw [ids_iff] at hi
    refine ⟨h1, h2, fun i h _ => ⟨h3 i h, fun j hj e => ?_, fun j hj hji => hi j i hj h hji⟩⟩
    have k1 := ho j i hj h e.symm (Nat.zero_le _)
    have k2 := hi j i hj h (by omega)
    rw [byT_neg, bef_iff] at k1
    rw [bef_iff]
    omega
theorem iok_a {w : World} (now : Int) (a : Option Addr) (cap n : Nat) (h1 : timeB now = false) :
    Calls Try.prog 24 #[.agg #[.int .i64 now, .slice a n cap]] w fun e w' => e = .returned (.bool false) ∧ RowKit.Below w.heap.size w w' := by
  go_enter Try.func24, Try.ntmps24
  go_wp2_with (first
    | (go_at_call 54; refine (itime_any _ _).mono ?_; rintro e w2 ⟨rfl, rfl⟩; rw [h1]))
  go_ret
  exact ⟨rfl, by go_grown⟩
theorem iok_b {w : World} (now : Int) (a : Option Addr) (cap n : Nat) (h1 : timeB now = true) (h2 : (200 : Int) < n) (h3 : (n : Int) ≤ 9223372036854775807) :
    Calls Try.prog 24 #[.agg #[.int .i64 now, .slice a n cap]] w fun e w' => e = .returned (.bool false) ∧ RowKit.Below w.heap.size w w' := by
  go_enter Try.func24, Try.ntmps24
  go_wp2_with (first
    | (go_at_call 54; refine (itime_any _ _).mono ?_; rintro e w2 ⟨rfl, rfl⟩; rw [h1]))
  go_ret
  exact ⟨rfl, by go_grown⟩
set_option maxHeartbeats 4000000 in
theorem iok_c {w : World} (now : Int) {a : Option Addr} (cap : Nat) {xs : List (Int × Int)} (h : Smp w.heap.size w a xs) (h1 : timeB now = true) (hl : xs.length ≤ 200) :
    Calls Try.prog 24 #[.agg #[.int .i64 now, .slice a xs.length cap]] w (WPost now xs w) := by
  have hl' : (xs.length : Int) ≤ 200 := by omega
  have hl2 : ¬ (200 : Int) < xs.length := by omega
  go_enter Try.func24, Try.ntmps24
  go_wp2_with (first
    | (go_at_call 54; refine (itime_any _ _).mono ?_; rintro e w2 ⟨rfl, rfl⟩; rw [h1]))
  obtain ⟨va, hv⟩ : ∃ v, v = w.alloc (.cells #[.int .i64 now, .slice a xs.length cap] 36) := ⟨_, rfl⟩
  rw [← hv]
  have C : Hid (Kept w [(w.heap.size, 0, .int .i64 now), (w.heap.size, 1, .slice a xs.length cap)] [] va) := by
    rw [hv]
    exact ⟨⟨⟨by simp, by go_simp⟩, ⟨by simp, by go_simp⟩, trivial⟩, (fun b hb => by cases hb), new_below _ _⟩
  clear hv
  go_loopw [18] (fun i wr => ∃ k : Nat, i = .int .i64 k ∧ k ≤ xs.length ∧ (∀ i (h : i < xs.length), i < k → timB now xs[i] = true) ∧ Kept w [(w.heap.size, 0, .int .i64 now), (w.heap.size, 1, .slice a xs.length cap)] [] wr) (fun i _ => xs.length - (intOf i).toNat)
  case atStart => exact ⟨0, rfl, by omega, (fun i h k => by omega), C.out⟩
  case round =>
    clear C
    obtain ⟨k, rfl, hk, hall, K1⟩ := hrel
    obtain ⟨⟨⟨z0, k0⟩, ⟨_, k1⟩, _⟩, _, hwr⟩ := id K1
    have KK : Hid (Kept w [(w.heap.size, 0, .int .i64 now), (w.heap.size, 1, .slice a xs.length cap)] [] wr) := K1
    clear K1
    by_cases hlt : k < xs.length
    · obtain ⟨b, off, rfl, hb, c0, c1⟩ := h.at hwr k hlt
      have hlt' : (k : Int) < (xs.length : Int) := by omega
      obtain ⟨p, q, hx⟩ : ∃ p q, xs[k] = (p, q) := ⟨_, _, rfl⟩
      have HT : Hid (timB now xs[k] = timB now (p, q)) := by rw [hx]; rfl
      rw [hx] at c0 c1
      clear hx
      simp only at c0 c1
      have y0 : wr.heap.size ≠ b := by omega
      have y1 : wr.heap.size ≠ w.heap.size := by omega
      have y2 : b ≠ wr.heap.size := by omega
      have y3 : w.heap.size ≠ wr.heap.size := by omega
      cases ht : timB now (p, q)
      · go_wp2_with (first
          | (go_at_call 70; refine (mayHold_any _ _ _ _ _ _ _).mono ?_; rintro e w3 ⟨rfl, hb3⟩; rw [ht]))
        go_ret
        exact WPost.no (fun hW => by have e := (hW.2.2 k hlt hlt).1; rw [HT.out, ht] at e; cases e) (below_step (w := w) (by go_grown) hb3)
      · go_wp2_with (first
          | (go_at_call 70; refine (mayHold_any _ _ _ _ _ _ _).mono ?_; rintro e w3 ⟨rfl, hb3⟩; rw [ht]))
        go_roundw
        case rel =>
          refine ⟨k + 1, by go_num, by omega, fun i hi hik => ?_, KK.out.next (below_step (by go_grown) hb3)⟩
          by_cases e : i = k
          · subst e
            rw [HT.out, ht]
          · exact hall i hi (by omega)
        case measure => first | (simp [intOf]; done) | (simp [intOf]; omega)
    · have e : k = xs.length := by omega
      subst e
      have HA : Hid (∀ i (h : i < xs.length), timB now xs[i] = true) := fun i h => hall i h h
      clear hall
      go_wp2_with (first
        | (go_at_call 78; refine (isSorted_any cap (h.here hwr) (by omega)).mono ?_; rintro e w4 ⟨f, rfl, hf, hb4⟩; have HF : Hid (f = true ↔ OrdFrom xs 0) := hf; clear hf; have hbw := below_step hwr hb4; have KK : Hid (Kept w [(w.heap.size, 0, .int .i64 now), (w.heap.size, 1, .slice a xs.length cap)] [] w4) := KK.out.next hb4; have k1 := KK.out.cells.2.1.2; cases f)
        | (go_at_call 72; refine (sorted_any swo_id byId_is cap (h.here hbw) (by omega)).mono ?_; rintro e w5 ⟨a5, n5, c5, ys, rfl, rfl, _, hs5, hp5, ho5, hb5⟩; have hbw := below_step hbw hb5; have HP : Hid (ys.Perm xs) := hp5; have HO : Hid (InOrd (fun p q => cmpI p.1 q.1) ys) := ho5; have HL : Hid (ys.length = xs.length) := hp5.length_eq; clear hp5 ho5)
        | (go_at_call 79; refine (unlike_any c5 hs5 (by rw [HL.out]; omega)).mono ?_; rintro e w6 ⟨f, rfl, hf, hb6⟩; have HG : Hid (f = true ↔ ApartTo ys ys.length) := hf; clear hf; have hbw := below_step hbw hb6))
      · go_ret
        exact WPost.no (fun hW => by have e := HF.out.2 ((wok_iff h1 hl HA.out).1 hW).1; cases e) hbw
      · go_ret
        refine ⟨f, rfl, ?_, hbw⟩
        rw [HG.out, apart_ids HO.out, ids_perm HP.out, wok_iff h1 hl HA.out]
        exact ⟨fun e => ⟨HF.out.1 (by trivial), e⟩, fun e => e.2⟩
theorem implWheelOk_any {w : World} (now : Int) {a : Option Addr} (cap : Nat) {xs : List (Int × Int)} (h : Smp w.heap.size w a xs) (hc : xs.length ≤ cap) (hn : a = none → cap = 0) (hlen : (xs.length : Int) ≤ 9223372036854775807) :
    Calls Try.prog 24 #[.agg #[.int .i64 now, .slice a xs.length cap]] w (WPost now xs w) := by
  cases h1 : timeB now
  · refine (iok_a now a cap xs.length h1).mono ?_
    rintro e w' ⟨rfl, hb⟩
    exact WPost.no (fun hW => by rw [hW.1] at h1; cases h1) hb
  · by_cases h2 : xs.length ≤ 200
    · exact iok_c now cap h h1 h2
    · refine (iok_b now a cap xs.length h1 (by omega) hlen).mono ?_
      rintro e w' ⟨rfl, hb⟩
      exact WPost.no (fun hW => h2 hW.2.1) hb
theorem implWheelOk_yes {w : World} {now : Int} {a : Option Addr} (cap : Nat) {xs : List (Int × Int)} (h : Smp w.heap.size w a xs) (hc : xs.length ≤ cap) (hn : a = none → cap = 0) (hW : WOk now xs) :
    Calls Try.prog 24 #[.agg #[.int .i64 now, .slice a xs.length cap]] w fun e w' => e = .returned (.bool true) ∧ RowKit.Below w.heap.size w w' := by
  refine (implWheelOk_any now cap h hc hn (by have := hW.2.1; omega)).mono ?_
  rintro e w' ⟨f, rfl, hf, hb⟩
  exact ⟨by rw [hf.2 hW], hb⟩
theorem implWheelOk_no {w : World} {now : Int} {a : Option Addr} (cap : Nat) {xs : List (Int × Int)} (h : Smp w.heap.size w a xs) (hc : xs.length ≤ cap) (hn : a = none → cap = 0) (hl : (xs.length : Int) ≤ 9223372036854775807) (hW : ¬ WOk now xs) :
    Calls Try.prog 24 #[.agg #[.int .i64 now, .slice a xs.length cap]] w fun e w' => e = .returned (.bool false) ∧ RowKit.Below w.heap.size w w' := by
  refine (implWheelOk_any now cap h hc hn hl).mono ?_
  rintro e w' ⟨f, rfl, hf, hb⟩
  cases f
  · exact ⟨rfl, hb⟩
  · exact absurd (hf.1 rfl) hW
end Go.Proofs.Ytdgefdjgpneanac
