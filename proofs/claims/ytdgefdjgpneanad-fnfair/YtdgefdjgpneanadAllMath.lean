/- Serving again and again, as mathematics: Turns stay right; sums of what each flow got. -/
import Derived.Test.YtdgefdjgpneanadSrvMath
namespace Go.Proofs.Ytdgefdjgpneanad
open Go.ChangeShapes Go.WideShapes Go.ChangeAt Go.RowKit
set_option maxRecDepth 100000
set_option linter.unusedVariables false
set_option linter.unusedSimpArgs false

theorem find_spec {fs : List F8} : ∀ {L : List (Int × Bool)} {k : Int} {g : F8} {s : Int}, findT fs L = some (k, g, s) → ∃ (j : Nat) (hj : j < L.length), L[j].1 = k ∧ tryAt fs L[j] = some (g, s) ∧ ∀ i (hi : i < j), tryAt fs (L[i]'(by omega)) = none
  | [], _, _, _, e => by cases e
  | x :: r, k, g, s, e => by
    cases hx : tryAt fs x with
    | none =>
      rw [find_no hx] at e
      obtain ⟨j, hj, h1, h2, h3⟩ := find_spec e
      refine ⟨j + 1, by simp; omega, h1, h2, fun i hi => ?_⟩
      cases i with
      | zero => exact hx
      | succ i => exact h3 i (by omega)
    | some p =>
      obtain ⟨f', s'⟩ := p
      rw [find_yes hx] at e
      injection e with e
      injection e with e1 e2
      injection e2 with e2 e3
      subst e1 e2 e3
      exact ⟨0, by simp, rfl, hx, fun i hi => by omega⟩
/-- What a flow that is not fresh has left where it is passed over. -/
theorem try_less {f : F8} (h : FlowOk f) (hn : tryF f false = none) : f.2.1 < 1500 := by
  obtain ⟨q, d, xs⟩ := f
  cases xs with
  | nil => have := h.none rfl; simp only at this ⊢; omega
  | cons s r =>
    have h1 := sg_at h.seg 0 (by simp)
    simp only [List.getElem_cons_zero] at h1
    unfold tryF dueOf at hn
    simp only [Bool.false_eq_true, if_false] at hn
    by_cases hle : s ≤ d
    · rw [if_pos hle] at hn; cases hn
    · simp only; omega
/-- Who is served, and what they have left. -/
structure SrvIs (fs : List F8) (at' : Int) (fresh : Bool) (m : Nat) (g : F8) (s : Int) : Prop where
  fnd : findT fs (comeOf fs.length at' fresh fs.length) = some ((m : Int), g, s)
  lt : m < fs.length
  flow : FlowOk g
  size : 1 ≤ s ∧ s ≤ 1500
  less : ∀ k (h : k < fs.length), k ≠ m → fs[k].2.1 < 1500
theorem srv_is {fs : List F8} {at' : Int} {fresh : Bool} (h : TurnsOk fs at' fresh) (hf : findT fs (comeOf fs.length at' fresh fs.length) ≠ none) : ∃ m g s, SrvIs fs at' fresh m g s := by
  cases hx : findT fs (comeOf fs.length at' fresh fs.length) with
  | none => exact absurd hx hf
  | some p =>
    obtain ⟨k, g, s⟩ := p
    obtain ⟨j, hj, h1, h2, h3⟩ := find_spec hx
    have hin := come_in h.l0 h.a0 h.a1 hj
    rw [h1] at hin
    obtain ⟨m, rfl⟩ : ∃ m : Nat, k = m := ⟨k.toNat, by omega⟩
    have hm : m < fs.length := by omega
    obtain ⟨fr, hfr⟩ : ∃ fr, (comeOf fs.length at' fresh fs.length)[j].2 = fr := ⟨_, rfl⟩
    have hxj : (comeOf fs.length at' fresh fs.length)[j] = ((m : Int), fr) := by rw [← h1, ← hfr]
    rw [hxj] at h2
    have htry : tryF fs[m] fr = some (g, s) := by
      unfold tryAt at h2
      simp only [Int.toNat_natCast] at h2
      rw [List.getElem?_eq_getElem hm] at h2
      exact h2
    have ha : at'.toNat < fs.length := by have := h.a0; have := h.a1; omega
    have haa : ((at'.toNat : Nat) : Int) = at' := Int.toNat_of_nonneg h.a0
    -- what the flow At has, where another one is served or it comes again
    have hat : 0 < j → fresh = false → fs[at'.toNat].2.1 < 1500 := by
      intro hj0 hfs
      have h4 := h3 0 hj0
      rw [come_zero] at h4
      unfold tryAt at h4
      simp only at h4
      rw [List.getElem?_eq_getElem ha, hfs] at h4
      exact try_less (h.flow _ ha) h4
    have hfresh : fr = true → fs[m].2.1 < 1500 := by
      intro hfrt
      by_cases hne : (m : Int) ≠ at' ∨ fresh = true
      · exact h.less m hm hne
      · have hma : (m : Int) = at' := by
          rcases Int.lt_trichotomy (m : Int) at' with h | h | h
          · exact absurd (.inl (by omega)) hne
          · exact h
          · exact absurd (.inl (by omega)) hne
        have hff : fresh = false := by cases hff : fresh with
          | false => rfl
          | true => exact absurd (.inr hff) hne
        have hj0 : 0 < j := by
          rcases Nat.eq_zero_or_pos j with rfl | h
          · rw [come_zero] at hxj
            injection hxj with _ e2
            rw [hff, hfrt] at e2
            cases e2
          · exact h
        have := hat hj0 hff
        have e : at'.toNat = m := by omega
        subst e
        exact this
    have hfo := h.flow m hm
    refine ⟨m, g, s, hx, hm, ?_, ?_, ?_⟩
    · obtain ⟨x, hxx⟩ : ∃ x, fs[m] = x := ⟨_, rfl⟩
      rw [hxx] at htry hfresh hfo
      obtain ⟨q, d, xs⟩ := x
      cases xs with
      | nil => rw [try_nil _ rfl] at htry; cases htry
      | cons s0 r =>
        have h1 := sg_at hfo.seg 0 (by simp)
        simp only [List.getElem_cons_zero] at h1
        have hq0 := hfo.q0
        have hq1 := hfo.q1
        have hd0 := hfo.d0
        have hd1 := hfo.d1
        have hlen := hfo.len
        simp only [List.length_cons] at hlen hq0 hq1 hd0 hd1
        unfold tryF at htry
        simp only at htry
        by_cases hle : s0 ≤ dueOf q d fr
        · rw [if_pos hle] at htry
          injection htry with htry
          injection htry with e1 e2
          subst e1
          have hseg : allSg r = true := by
            have := hfo.seg
            unfold allSg at this ⊢
            simp only [List.all_cons, Bool.and_eq_true] at this
            exact this.2
          have hdue : dueOf q d fr - s0 ≤ q + 1500 := by
            unfold dueOf
            split
            · rename_i e
              have := hfresh e
              simp only at this
              omega
            · omega
          refine ⟨hq0, hq1, ?_, ?_, by simp only; omega, fun e => by simp only at e ⊢; rw [if_pos e], hseg⟩
          · simp only; split <;> omega
          · simp only; split <;> omega
        · rw [if_neg hle] at htry; cases htry
    · obtain ⟨x, hxx⟩ : ∃ x, fs[m] = x := ⟨_, rfl⟩
      rw [hxx] at htry hfo
      obtain ⟨q, d, xs⟩ := x
      cases xs with
      | nil => rw [try_nil _ rfl] at htry; cases htry
      | cons s0 r =>
        have h1 := sg_at hfo.seg 0 (by simp)
        simp only [List.getElem_cons_zero] at h1
        unfold tryF at htry
        simp only at htry
        by_cases hle : s0 ≤ dueOf q d fr
        · rw [if_pos hle] at htry
          injection htry with htry
          injection htry with e1 e2
          subst e2
          exact h1
        · rw [if_neg hle] at htry; cases htry
    · intro k hk hkm
      by_cases hne : (k : Int) ≠ at' ∨ fresh = true
      · exact h.less k hk hne
      · have hka : (k : Int) = at' := by
          rcases Int.lt_trichotomy (k : Int) at' with h | h | h
          · exact absurd (.inl (by omega)) hne
          · exact h
          · exact absurd (.inl (by omega)) hne
        have hff : fresh = false := by cases hff : fresh with
          | false => rfl
          | true => exact absurd (.inr hff) hne
        have hj0 : 0 < j := by
          rcases Nat.eq_zero_or_pos j with rfl | h
          · rw [come_zero] at hxj
            injection hxj with e1 _
            omega
          · exact h
        have := hat hj0 hff
        have e : at'.toNat = k := by omega
        subst e
        exact this
theorem SrvIs.fs {fs : List F8} {at' : Int} {fresh : Bool} {m : Nat} {g : F8} {s : Int} (h : SrvIs fs at' fresh m g s) : srvFs fs at' fresh = fs.set m g ∧ srvAt fs at' fresh = (m : Int) ∧ srvFr fs at' fresh = false ∧ srvI fs at' fresh = (m : Int) ∧ srvN fs at' fresh = s := by
  unfold srvFs srvAt srvFr srvI srvN
  rw [h.fnd]
  exact ⟨by simp, rfl, rfl, rfl, rfl⟩
theorem SrvIs.ok {fs : List F8} {at' : Int} {fresh : Bool} {m : Nat} {g : F8} {s : Int} (h : SrvIs fs at' fresh m g s) (ht : TurnsOk fs at' fresh) : TurnsOk (fs.set m g) (m : Int) false := by
  have hm := h.lt
  refine ⟨by rw [List.length_set]; exact ht.l0, by rw [List.length_set]; exact ht.l1, by omega, by rw [List.length_set]; omega, fun k hk => ?_, fun k hk hne => ?_⟩
  · rw [List.getElem_set]
    split
    · exact h.flow
    · exact ht.flow k (by simpa using hk)
  · have hkm : k ≠ m := by
      rcases hne with hne | hne
      · intro e; exact hne (by rw [e])
      · cases hne
    rw [List.getElem_set, if_neg (fun e => hkm e.symm)]
    exact h.less k (by simpa using hk) hkm
theorem srv_none {fs : List F8} {at' : Int} {fresh : Bool} (hf : findT fs (comeOf fs.length at' fresh fs.length) = none) : srvFs fs at' fresh = fs ∧ srvAt fs at' fresh = at' ∧ srvFr fs at' fresh = fresh ∧ srvI fs at' fresh = -1 ∧ srvN fs at' fresh = 0 := by
  unfold srvFs srvAt srvFr srvI srvN
  rw [hf]
  exact ⟨rfl, rfl, rfl, rfl, rfl⟩
/-- Served up to k times; S: what each flow got. -/
def allR : Nat → List F8 → Int → Bool → List Int → List F8 × Int × Bool × List Int
  | 0, fs, a, f, S => (fs, a, f, S)
  | k + 1, fs, a, f, S => match findT fs (comeOf fs.length a f fs.length) with
    | none => (fs, a, f, S)
    | some (m, g, s) => allR k (fs.set m.toNat g) m false (S.set m.toNat (S.getD m.toNat 0 + s))
theorem all_none {k : Nat} {fs : List F8} {a : Int} {f : Bool} {S : List Int} (h : findT fs (comeOf fs.length a f fs.length) = none) : allR k fs a f S = (fs, a, f, S) := by
  cases k with
  | zero => rfl
  | succ k => unfold allR; rw [h]
theorem all_some {k : Nat} {fs : List F8} {a : Int} {f : Bool} {S : List Int} {m : Nat} {g : F8} {s : Int} (h : SrvIs fs a f m g s) : allR (k + 1) fs a f S = allR k (fs.set m g) (m : Int) false (S.set m (S.getD m 0 + s)) := by
  conv => lhs; unfold allR
  rw [h.fnd]
  simp only [Int.toNat_natCast]
theorem getD_at {S : List Int} {m : Nat} (h : m < S.length) : S.getD m 0 = S[m] := by
  rw [List.getD_eq_getElem?_getD, List.getElem?_eq_getElem h]
  rfl
/-- Sums of d serves. -/
structure SumOk (S : List Int) (n d : Nat) : Prop where
  len : S.length = n
  bd : ∀ i (h : i < S.length), 0 ≤ S[i] ∧ S[i] ≤ 1500 * (d : Int)
theorem SumOk.zero (n : Nat) : SumOk (List.replicate n 0) n 0 := ⟨List.length_replicate, fun i h => by rw [List.getElem_replicate]; omega⟩
theorem SumOk.step {S : List Int} {n d m : Nat} {s : Int} (h : SumOk S n d) (hm : m < n) (hs : 1 ≤ s ∧ s ≤ 1500) : SumOk (S.set m (S.getD m 0 + s)) n (d + 1) := by
  have hl := h.len
  have hms : m < S.length := by omega
  refine ⟨by rw [List.length_set]; exact hl, fun i hi => ?_⟩
  have hb := h.bd i (by simpa using hi)
  have hbm := h.bd m hms
  rw [List.getElem_set]
  split
  · rw [getD_at hms]
    omega
  · omega
/-- What ServeAll answers. -/
def allB (fs : List F8) (at' : Int) (fresh : Bool) (n : Int) : Bool := turnsB fs at' fresh && inB 0 n 3000
def allOf (fs : List F8) (at' : Int) (fresh : Bool) (n : Int) : List F8 × Int × Bool × List Int := if allB fs at' fresh n = true then allR n.toNat fs at' fresh (List.replicate fs.length 0) else ([], 0, false, [])
/-- All that the rounds keep. -/
structure AllIs (N : Nat) (fs0 : List F8) (at0 : Int) (fr0 : Bool) (k : Nat) (fs : List F8) (a : Int) (f : Bool) (S : List Int) : Prop where
  ok : TurnsOk fs a f
  len : fs.length = fs0.length
  sum : SumOk S fs0.length (N - k)
  le : k ≤ N
  same : allR k fs a f S = allR N fs0 at0 fr0 (List.replicate fs0.length 0)
theorem AllIs.start {fs : List F8} {a : Int} {f : Bool} (h : TurnsOk fs a f) (N : Nat) : AllIs N fs a f N fs a f (List.replicate fs.length 0) := ⟨h, rfl, by rw [Nat.sub_self]; exact SumOk.zero _, Nat.le_refl _, rfl⟩
theorem AllIs.step {N k : Nat} {fs0 fs : List F8} {at0 a : Int} {fr0 f : Bool} {S : List Int} (h : AllIs N fs0 at0 fr0 (k + 1) fs a f S) {m : Nat} {g : F8} {s : Int} (hs : SrvIs fs a f m g s) : AllIs N fs0 at0 fr0 k (fs.set m g) (m : Int) false (S.set m (S.getD m 0 + s)) := by
  have hle := h.le
  refine ⟨hs.ok h.ok, by rw [List.length_set]; exact h.len, ?_, by omega, ?_⟩
  · have := h.sum.step (m := m) (s := s) (by rw [← h.len]; exact hs.lt) hs.size
    rw [show N - k = N - (k + 1) + 1 by omega]
    exact this
  · rw [← all_some hs]
    exact h.same
theorem AllIs.stop {N k : Nat} {fs0 fs : List F8} {at0 a : Int} {fr0 f : Bool} {S : List Int} (h : AllIs N fs0 at0 fr0 k fs a f S) (hn : findT fs (comeOf fs.length a f fs.length) = none) : allR N fs0 at0 fr0 (List.replicate fs0.length 0) = (fs, a, f, S) := by
  rw [← h.same]
  exact all_none hn
theorem AllIs.done {N : Nat} {fs0 fs : List F8} {at0 a : Int} {fr0 f : Bool} {S : List Int} (h : AllIs N fs0 at0 fr0 0 fs a f S) : allR N fs0 at0 fr0 (List.replicate fs0.length 0) = (fs, a, f, S) := h.same.symm
end Go.Proofs.Ytdgefdjgpneanad
