/- What is observed stays right. -/
import Derived.Test.YtiibafphgjlffaeObsBoth
import Derived.Test.YtiibafphgjlffaePrbBoth
namespace Go.Proofs.Ytiibafphgjlffae
open Go.ChangeShapes Go.WideShapes Go.ChangeAt Go.RowKit
set_option maxRecDepth 100000
set_option linter.unusedVariables false
set_option linter.unusedSimpArgs false

theorem push_best {xs : List (Int × Int)} {s : Int × Int} {win : Int} (h : PushOk true xs s win) : s.2 ≤ bestOf (pushOf true xs s win) := by
  have hfil : ∀ x ∈ xs.filter (keepB true s), s.2 ≤ x.2 := by
    intro x hx
    have hk := (List.mem_filter.1 hx).2
    rw [keepV] at hk
    unfold beatV at hk
    simp at hk
    omega
  have hall : ∀ x ∈ comeOf true xs s, s.2 ≤ x.2 := by
    intro x hx
    unfold comeOf at hx
    dsimp only at hx
    split at hx
    · exact hfil x hx
    · rcases List.mem_append.1 hx with h1 | h1
      · exact hfil x h1
      · rw [List.mem_singleton.1 h1]
        exact Int.le_refl _
  have hne : comeOf true xs s ≠ [] := by
    have hs := h.2.1
    unfold smpB timeB at hs
    simp only [Bool.and_eq_true, decide_eq_true_eq] at hs
    unfold comeOf
    dsimp only
    split
    · rename_i k
      intro e
      rw [e] at k
      have k2 : lastAt ([] : List (Int × Int)) = -1 := rfl
      omega
    · simp
  obtain ⟨y, ys, e, _⟩ := young_head (s.1 - win) _ hne
  have hsub := young_sub (s.1 - win) (comeOf true xs s)
  have hall2 : ∀ x ∈ y :: ys, s.2 ≤ x.2 := fun x hx => hall x (hsub.subset (by rw [e]; exact hx))
  unfold pushOf
  dsimp only
  rw [e]
  split
  · cases ys with
    | nil => simp at *
    | cons z zs => exact hall2 z (by simp)
  · exact hall2 y (by simp)
structure PbOk (p : Pb) : Prop where
  sa : 1 ≤ p.sa ∧ p.sa ≤ 4
  cy : 0 ≤ p.cy ∧ p.cy ≤ 7
  sn : 0 ≤ p.sn ∧ p.sn ≤ 1000000000000000
  tp : 0 ≤ p.tp ∧ p.tp ≤ 1000000000000
  sv : 0 ≤ p.sv ∧ p.sv ≤ 3
  mt : 0 ≤ p.mt ∧ p.mt ≤ 1000000000000000
  ta : 0 ≤ p.ta ∧ p.ta ≤ 1000000000000000
theorem pb_of {sa cy sn tp sv mt ta : Int} {xs : List (Int × Int)} (h : pokB sa cy sn tp sv mt ta xs = true) : PbOk ⟨sa, cy, sn, tp, sv, mt, ta⟩ := by
  unfold pokB inP timeB rateB at h
  simp only [Bool.and_eq_true, decide_eq_true_eq] at h
  obtain ⟨⟨⟨⟨⟨⟨⟨h1, h2⟩, h3⟩, h4⟩, h5⟩, _⟩, h6⟩, h7⟩ := h
  exact ⟨h1, h2, h3, h4, h5, h6, h7⟩
open Classical in
theorem pb_to {sa cy sn tp sv mt ta : Int} {xs : List (Int × Int)} (h : PbOk ⟨sa, cy, sn, tp, sv, mt, ta⟩) (hf : FOk true xs) : pokB sa cy sn tp sv mt ta xs = true := by
  have h1 := h.sa; have h2 := h.cy; have h3 := h.sn; have h4 := h.tp; have h5 := h.sv; have h6 := h.mt; have h7 := h.ta
  have h8 : filB xs = true := by unfold filB; exact decide_eq_true hf
  unfold pokB inP timeB rateB
  simp only [Bool.and_eq_true, decide_eq_true_eq]
  exact ⟨⟨⟨⟨⟨⟨⟨h1, h2⟩, h3⟩, h4⟩, h5⟩, h8⟩, h6⟩, h7⟩
section
variable {now trip be flight : Int} {p : Pb} (d : PbOk p) (hn : 0 ≤ now ∧ now ≤ 1000000000000000)
include d hn
theorem PbOk.stepA (ht : 1 ≤ trip ∧ trip ≤ 1000000000000000) : PbOk (obA now trip p) ∧ 1 ≤ (obA now trip p).mt ∧ (obA now trip p).sa = p.sa := by
  unfold obA
  have hm := d.mt
  split
  · exact ⟨⟨d.sa, d.cy, d.sn, d.tp, d.sv, ⟨by show 0 ≤ trip; omega, ht.2⟩, hn⟩, ht.1, rfl⟩
  · rename_i k
    exact ⟨d, by have : ¬ p.mt = 0 := fun e => k (.inl e); omega, rfl⟩
theorem PbOk.stepB (hb : 0 ≤ be ∧ be ≤ 1000000000000) : PbOk (obB now be p) ∧ (obB now be p).mt = p.mt ∧ p.sa ≤ (obB now be p).sa := by
  unfold obB
  have hv := d.sv
  split
  · rename_i k
    split
    · exact ⟨⟨d.sa, d.cy, d.sn, hb, (show (0 : Int) ≤ 0 ∧ (0 : Int) ≤ 3 by decide), d.mt, d.ta⟩, rfl, Int.le_refl _⟩
    · split
      · exact ⟨⟨(show (1 : Int) ≤ 2 ∧ (2 : Int) ≤ 4 by decide), d.cy, hn, d.tp, (show (0 : Int) ≤ 3 ∧ (3 : Int) ≤ 3 by decide), d.mt, d.ta⟩, rfl, by show p.sa ≤ 2; omega⟩
      · exact ⟨⟨d.sa, d.cy, d.sn, d.tp, by show 0 ≤ min 3 (p.sv + 1) ∧ min 3 (p.sv + 1) ≤ 3; omega, d.mt, d.ta⟩, rfl, Int.le_refl _⟩
  · exact ⟨d, rfl, Int.le_refl _⟩
theorem PbOk.stepC : PbOk (obC now be flight p) ∧ (obC now be flight p).mt = p.mt ∧ p.sa ≤ (obC now be flight p).sa := by
  unfold obC
  split
  · rename_i k
    exact ⟨⟨(show (1 : Int) ≤ 3 ∧ (3 : Int) ≤ 4 by decide), (show (0 : Int) ≤ 0 ∧ (0 : Int) ≤ 7 by decide), hn, d.tp, d.sv, d.mt, d.ta⟩, rfl, by have := k.1; show p.sa ≤ 3; omega⟩
  · exact ⟨d, rfl, Int.le_refl _⟩
theorem PbOk.stepD (was : Int) : PbOk (obD was now p) ∧ (obD was now p).mt = p.mt ∧ p.sa ≤ (obD was now p).sa := by
  unfold obD
  split
  · exact ⟨⟨d.sa, by show 0 ≤ (p.cy + 1) % 8 ∧ (p.cy + 1) % 8 ≤ 7; omega, hn, d.tp, d.sv, d.mt, d.ta⟩, rfl, Int.le_refl _⟩
  · exact ⟨d, rfl, Int.le_refl _⟩
theorem PbOk.stepE (was : Int) : PbOk (obE was now p) ∧ (obE was now p).mt = p.mt ∧ p.sa ≤ (obE was now p).sa := by
  unfold obE
  split
  · exact ⟨⟨(show (1 : Int) ≤ 4 ∧ (4 : Int) ≤ 4 by decide), d.cy, hn, d.tp, d.sv, d.mt, d.ta⟩, rfl, d.sa.2⟩
  · exact ⟨d, rfl, Int.le_refl _⟩
theorem PbOk.stepF (was : Int) : PbOk (obF was now p) ∧ (obF was now p).mt = p.mt ∧ (p.sa ≤ (obF was now p).sa ∨ was = 4) := by
  unfold obF
  split
  · rename_i k
    exact ⟨⟨(show (1 : Int) ≤ 3 ∧ (3 : Int) ≤ 4 by decide), (show (0 : Int) ≤ 0 ∧ (0 : Int) ≤ 7 by decide), hn, d.tp, d.sv, d.mt, d.ta⟩, rfl, .inr k.1⟩
  · exact ⟨d, rfl, .inl (Int.le_refl _)⟩
theorem PbOk.obs (hb : 0 ≤ be ∧ be ≤ 1000000000000) (ht : 1 ≤ trip ∧ trip ≤ 1000000000000000) : PbOk (obs now be trip flight p) ∧ 1 ≤ (obs now be trip flight p).mt ∧ (p.sa ≤ (obs now be trip flight p).sa ∨ p.sa = 4) := by
  obtain ⟨d1, m1, s1⟩ := d.stepA hn ht
  obtain ⟨d2, m2, s2⟩ := d1.stepB hn hb
  obtain ⟨d3, m3, s3⟩ := d2.stepC (be := be) (flight := flight) hn
  obtain ⟨d4, m4, s4⟩ := d3.stepD hn p.sa
  obtain ⟨d5, m5, s5⟩ := d4.stepE hn p.sa
  obtain ⟨d6, m6, s6⟩ := d5.stepF hn p.sa
  unfold Go.Proofs.Ytiibafphgjlffae.obs
  refine ⟨d6, by rw [m6, m5, m4, m3, m2]; exact m1, ?_⟩
  rcases s6 with s6 | s6
  · exact .inl (by omega)
  · exact .inr s6
end
/-- What the law asks of what is observed. -/
theorem ob_law {sa cy sn tp sv mt ta now rate trip flight : Int} {xs ys : List (Int × Int)} {s : Pb} (h : ObOk sa cy sn tp sv mt ta now rate trip flight xs) (hy : ys = pushOf true xs (now, rate) 10000000000) (hs : s = obs now (bestOf ys) trip flight ⟨sa, cy, sn, tp, sv, mt, ta⟩) :
    pokB s.sa s.cy s.sn s.tp s.sv s.mt s.ta ys = true ∧ ¬ s.sa = 0 ∧ 0 < s.mt ∧ rate ≤ bestOf ys ∧ (sa ≤ s.sa ∨ sa = 4) := by
  have hP := ob_push h
  obtain ⟨hp, hn, hr, ht, hw, h1, h2, hl⟩ := h
  have hf := push_ok hP
  have hb := push_best hP
  rw [← hy] at hf hb
  have ht' : 1 ≤ trip ∧ trip ≤ 1000000000000000 := by
    unfold inP at ht
    simp only [Bool.and_eq_true, decide_eq_true_eq] at ht
    exact ht
  have h3 := (pb_of hp).obs (flight := flight) (tim_num hn) (best_num hf) ht'
  rw [← hs] at h3
  obtain ⟨k1, k2, k3⟩ := h3
  refine ⟨pb_to k1 hf, ?_, by omega, hb, k3⟩
  have := k1.sa
  omega
theorem cap_law {sa cy sn tp sv mt ta : Int} {xs : List (Int × Int)} (h : pokB sa cy sn tp sv mt ta xs = true) : 6000 ≤ capAns sa cy sn tp sv mt ta xs ∧ capAns sa cy sn tp sv mt ta xs ≤ 1000000000 := by
  unfold capAns
  rw [if_pos h]
  unfold capOf
  split
  · decide
  · omega
theorem pace_law {sa cy sn tp sv mt ta : Int} {xs : List (Int × Int)} (h : pokB sa cy sn tp sv mt ta xs = true) : paceAns sa cy sn tp sv mt ta xs ≤ 1000000000000 := by
  unfold paceAns
  rw [if_pos h]
  exact Int.min_le_left _ _
theorem cap_none {sa cy sn tp sv mt ta : Int} {xs : List (Int × Int)} (h : pokB sa cy sn tp sv mt ta xs = false) : capAns sa cy sn tp sv mt ta xs = 0 := by
  unfold capAns
  rw [h]
  rfl
theorem fv_len {w : World} {lo n c : Nat} {a : Option Addr} {ys : List (Int × Int)} (h : FV w lo (.slice a n c) ys) : ys.length = n ∧ n ≤ c ∧ (a = none → c = 0) := by
  rcases h with ⟨g, cap, e, h1, h2, f, hc⟩ | ⟨e, rfl⟩
  · injection e with e1 e2 e3
    subst e1 e2 e3
    exact ⟨rfl, hc, fun e => by cases e⟩
  · injection e with e1 e2 e3
    subst e1 e2 e3
    exact ⟨rfl, Nat.le_refl _, fun _ => rfl⟩
end Go.Proofs.Ytiibafphgjlffae
