/- What is spent below a class is at most its bound: by lists alone. -/
import Derived.Test.YtmophpbfaonfmacRetLaw
import Derived.Test.YtmophpbfaonfmacSpendMath2
import Derived.Test.YtmophpbfaonfmacImplBound
namespace Go.Proofs.Ytmophpbfaonfmac
open Go.ChangeShapes Go.WideShapes Go.ChangeAt Go.RowKit
set_option linter.unusedVariables false

/-- What is taken from the tops: once from who stands on the path. -/
theorem topTo_is {n : Int} {P : List Q4} {L : List Int} (h0 : ∀ x ∈ L, 0 ≤ x) (hnd : L.Nodup) : ∀ j, j ≤ L.length → ∀ k (hk : k < P.length), (topTo n P L j)[k]? = some (if (k : Int) ∈ L.take j then takeTop n P[k] else P[k])
  | 0, _, k, hk => by
    show P[k]? = _
    rw [List.getElem?_eq_getElem hk]
    simp
  | j + 1, hj, k, hk => by
    have hlt : j < L.length := by omega
    have ih := topTo_is (n := n) (P := P) h0 hnd j (by omega)
    have hx := h0 _ (List.getElem_mem hlt)
    rw [topTo_next hlt]
    have hnot : L[j] ∉ L.take j := by
      intro hm
      obtain ⟨i, hi, e⟩ := List.mem_iff_getElem.1 hm
      rw [List.length_take] at hi
      rw [List.getElem_take] at e
      exact (List.pairwise_iff_getElem.1 hnd) i j (by omega) hlt (by omega) e
    by_cases e : (k : Int) = L[j]
    · have ek : (L[j]).toNat = k := by omega
      have hin : (k : Int) ∈ L.take (j + 1) := by
        rw [List.take_succ_eq_append_getElem hlt]
        exact List.mem_append_right _ (List.mem_singleton.2 e)
      rw [if_pos hin]
      have hv := ih k hk
      rw [if_neg (by rw [e]; exact hnot)] at hv
      unfold modAt
      rw [ek, hv]
      simp only
      rw [List.getElem?_set_self (by rw [topTo_length]; exact hk)]
    · have ho := modAt_other (f := takeTop n) (X := topTo n P L j) (c := L[j]) (d := (k : Int)) (by rw [Int.toNat_natCast]; omega)
      rw [Int.toNat_natCast] at ho
      rw [ho, ih k hk]
      have : ((k : Int) ∈ L.take (j + 1)) ↔ ((k : Int) ∈ L.take j) := by
        rw [List.take_succ_eq_append_getElem hlt, List.mem_append, List.mem_singleton]
        exact ⟨fun h => h.resolve_right e, .inl⟩
      simp only [this]
theorem own_prop {n w : Int} {O : List Q4} {L : List Int} {Φ : Nat → Q4 → Prop} (hf : ∀ k q, Φ k q → Φ k (takeOwn n q)) (h : ∀ k q, O[k]? = some q → Φ k q) : ∀ j k q, (ownTo n w O L j)[k]? = some q → Φ k q
  | 0, k, q, hq => h k q hq
  | j + 1, k, q, hq => by
    have ih := own_prop (w := w) (L := L) hf h j
    unfold ownTo at hq
    split at hq
    · rename_i c hc
      split at hq
      · unfold modAt at hq
        split at hq
        · rename_i x hx
          by_cases e : c.toNat = k
          · subst e
            rw [List.getElem?_set_self (by
              have := (List.getElem?_eq_some_iff.1 hx).1
              exact this)] at hq
            injection hq with hq
            rw [← hq]
            exact hf _ _ (ih _ _ hx)
          · rw [List.getElem?_set_ne e] at hq
            exact ih k q hq
        · exact ih k q hq
      · exact ih k q hq
    · exact ih k q hq
theorem bok_lvl {q : Q4} {l : Int} (h : bokQ q = true) (h0 : 0 ≤ l) (h1 : l ≤ q.2.2.1) : bokQ (lvlQ q l) = true := by
  have hb := bok_num h
  unfold bokQ bokB lvlQ at *
  rw [Bool.and_eq_true, Bool.and_eq_true, Bool.and_eq_true] at h
  simp only
  rw [Bool.and_eq_true, Bool.and_eq_true, Bool.and_eq_true]
  refine ⟨⟨h.1.1, ?_⟩, h.2⟩
  unfold lvlB
  rw [decide_eq_true h0, decide_eq_true (by omega)]
  rfl
theorem bok_own {n : Int} {q : Q4} (hn : 0 ≤ n) (h : bokQ q = true) : bokQ (takeOwn n q) = true := by
  have hb := bok_num h
  exact bok_lvl h (by omega) (by omega)
/-- What a Lend is behind a spend. -/
structure Spent (T O P : List Q4) (leaf now n : Int) (YO YP : List Q4) : Prop where
  ok : lendB T YO YP = true
  tim : atOf YO = now
  yes : spendF T O P leaf now n = true → ∀ k (h : k < P.length) (h' : k < YP.length), YP[k].2.2.1 = fillL P[k].1 P[k].2.1 P[k].2.2.1 P[k].2.2.2 now - (if (k : Int) ∈ pathOf T leaf then 1000000000 * n else 0)
  no : spendF T O P leaf now n = false → ∀ k (h : k < P.length) (h' : k < YP.length), YP[k].2.2.1 = fillL P[k].1 P[k].2.1 P[k].2.2.1 P[k].2.2.2 now
theorem fills_num {T O P : List Q4} {now : Int} (h : IsLend T O P) (hn : timeB now = true) (ha : atOf O ≤ now) : ∀ k (h1 : k < T.length) (h2 : k < (fills now O).length) (h3 : k < (fills now P).length), PairOk now (fills now O)[k] (fills now P)[k] T[k] := by
  intro k h1 h2 h3
  have h2' : k < O.length := by rw [fills_length] at h2; exact h2
  have h3' : k < P.length := by rw [fills_length] at h3; exact h3
  have hp := pair_ok (h.pair k h1 h2' h3')
  rw [fills_at h2' h2, fills_at h3' h3]
  have eT : ∀ t : Int, t = atOf O → fillT t now = now := by
    intro t e
    unfold fillT
    split <;> omega
  exact ⟨fill_good hp.oka hn, fill_good hp.okb hn, eT _ hp.ta, eT _ hp.tb, hp.ra, hp.rb, hp.ua, hp.ub⟩
theorem at_of_pairs {T O P : List Q4} {now : Int} (h0 : 0 < T.length) (lo : O.length = T.length) (lp : P.length = T.length) (h : ∀ k (h1 : k < T.length) (h2 : k < O.length) (h3 : k < P.length), PairOk now O[k] P[k] T[k]) : atOf O = now := by
  have := (h 0 h0 (by omega) (by omega)).ta
  unfold atOf
  rw [List.getElem?_eq_getElem (show 0 < O.length by omega)]
  exact this
theorem lend_pairs {T O P : List Q4} {now : Int} (hc : treeCode T = 0) (h0 : 0 < T.length) (lo : O.length = T.length) (lp : P.length = T.length) (h : ∀ k (h1 : k < T.length) (h2 : k < O.length) (h3 : k < P.length), PairOk now O[k] P[k] T[k]) : lendB T O P = true ∧ atOf O = now := by
  have ha := at_of_pairs h0 lo lp h
  refine ⟨?_, ha⟩
  unfold lendB
  rw [decide_eq_true hc, decide_eq_true lo, decide_eq_true lp, pair_every (fun k h1 h2 h3 => by rw [ha]; exact pair_is (h k h1 h2 h3)) lo lp T.length (Nat.le_refl _)]
  rfl
theorem told_num {T O P : List Q4} {leaf now n : Int} (h : toldB T O P leaf now n = true) : IsLend T O P ∧ (0 ≤ leaf ∧ leaf < T.length) ∧ timeB now = true ∧ atOf O ≤ now ∧ (1 ≤ n ∧ n ≤ 1500) := by
  unfold toldB at h
  simp only [Bool.and_eq_true, decide_eq_true_eq] at h
  obtain ⟨⟨⟨⟨⟨h1, h2⟩, h3⟩, h4⟩, h5⟩, h6⟩ := h
  exact ⟨lend_of h1, ⟨h2.1, by omega⟩, h4, h5, seg_num h6⟩
theorem spent {T O P : List Q4} {leaf now n : Int} (h : toldB T O P leaf now n = true) : Spent T O P leaf now n (spendO T O P leaf now n) (spendP T O P leaf now n) := by
  obtain ⟨hL, ⟨l0, l1⟩, ht, ha, hn⟩ := told_num h
  have hF := fills_num hL ht ha
  have hT0 : 0 < T.length := by omega
  have flo : (fills now O).length = T.length := by rw [fills_length, hL.lo]
  have flp : (fills now P).length = T.length := by rw [fills_length, hL.lp]
  have hw := hL.tree.sound.well
  have hmem := path_mem hw (leaf + 1).toNat leaf l1 (by omega)
  have hnd := path_nodup hw (leaf + 1).toNat leaf l1 (by omega)
  have h0 : ∀ x ∈ pathOf T leaf, 0 ≤ x := fun x hx => (hmem x hx).1
  have eF : spendF T O P leaf now n = decide (0 ≤ whoOf T O P leaf now n) := by unfold spendF; rw [h]; rfl
  by_cases hwho : whoOf T O P leaf now n < 0
  · have eO : spendO T O P leaf now n = fills now O := by unfold spendO; rw [if_pos h, if_pos hwho]
    have eP : spendP T O P leaf now n = fills now P := by unfold spendP; rw [if_pos h, if_pos hwho]
    obtain ⟨ok, hat⟩ := lend_pairs hL.code hT0 flo flp hF
    rw [eO, eP]
    refine ⟨ok, hat, fun hy => ?_, fun _ k hk hk' => ?_⟩
    · rw [eF, decide_eq_true_eq] at hy
      omega
    · rw [fills_at hk hk']
      rfl
  · have eO : spendO T O P leaf now n = ownTo n (whoOf T O P leaf now n) (fills now O) (pathOf T leaf) (pathOf T leaf).length := by unfold spendO; rw [if_pos h, if_neg hwho]
    have eP : spendP T O P leaf now n = topTo n (fills now P) (pathOf T leaf) (pathOf T leaf).length := by unfold spendP; rw [if_pos h, if_neg hwho]
    -- every level on the path is high enough
    have hall : ∀ i (hi : i < (pathOf T leaf).length), ¬ levelOf (fills now P) (pathOf T leaf)[i] < 1000000000 * n := by
      intro i hi
      have hk : askTo (fills now O) (fills now P) n (pathOf T leaf) (pathOf T leaf).length = some (whoOf T O P leaf now n) := by
        unfold whoOf askOf at hwho ⊢
        cases hq : askTo (fills now O) (fills now P) n (pathOf T leaf) (pathOf T leaf).length with
        | some who => rfl
        | none => rw [hq] at hwho; simp at hwho
      exact ask_all hk i hi hi
    have htop : ∀ k (hk : k < (fills now P).length), (topTo n (fills now P) (pathOf T leaf) (pathOf T leaf).length)[k]? = some (if (k : Int) ∈ pathOf T leaf then takeTop n (fills now P)[k] else (fills now P)[k]) := by
      intro k hk
      have := topTo_is (n := n) (P := fills now P) h0 hnd _ (Nat.le_refl _) k hk
      rwa [List.take_length] at this
    have lo' : (ownTo n (whoOf T O P leaf now n) (fills now O) (pathOf T leaf) (pathOf T leaf).length).length = T.length := by rw [ownTo_length, flo]
    have lp' : (topTo n (fills now P) (pathOf T leaf) (pathOf T leaf).length).length = T.length := by rw [topTo_length, flp]
    have hown := own_prop (n := n) (w := whoOf T O P leaf now n) (O := fills now O) (L := pathOf T leaf) (Φ := fun k q => ∀ h1 : k < T.length, bokQ q = true ∧ q.2.2.2 = now ∧ q.1 = T[k].2.1 ∧ q.2.1 = T[k].2.2.2)
      (fun k q hq h1 => by
        obtain ⟨a, b, c, d⟩ := hq h1
        exact ⟨bok_own (by omega) a, b, c, d⟩)
      (fun k q hq h1 => by
        have hk := (List.getElem?_eq_some_iff.1 hq).1
        have e := (List.getElem?_eq_some_iff.1 hq).2
        have hp := hF k h1 hk (by omega)
        rw [← e]
        exact ⟨hp.oka, hp.ta, hp.ra, hp.ua⟩) (pathOf T leaf).length
    have hlev : ∀ k (hk : k < (fills now P).length), (k : Int) ∈ pathOf T leaf → 1000000000 * n ≤ (fills now P)[k].2.2.1 := by
      intro k hk hm
      obtain ⟨i, hi, e⟩ := List.mem_iff_getElem.1 hm
      have := hall i hi
      rw [e, levelOf_at hk] at this
      omega
    have hpairs : ∀ k (h1 : k < T.length) (h2 : k < (ownTo n (whoOf T O P leaf now n) (fills now O) (pathOf T leaf) (pathOf T leaf).length).length) (h3 : k < (topTo n (fills now P) (pathOf T leaf) (pathOf T leaf).length).length), PairOk now (ownTo n (whoOf T O P leaf now n) (fills now O) (pathOf T leaf) (pathOf T leaf).length)[k] (topTo n (fills now P) (pathOf T leaf) (pathOf T leaf).length)[k] T[k] := by
      intro k h1 h2 h3
      obtain ⟨a, b, c, d⟩ := hown k _ (List.getElem?_eq_getElem h2) h1
      have hkP : k < (fills now P).length := by omega
      have hp := hF k h1 (by omega) hkP
      have e := htop k hkP
      rw [List.getElem?_eq_getElem h3] at e
      injection e with e
      rw [e]
      split
      · rename_i hm
        have hl := hlev k hkP hm
        exact ⟨a, bok_lvl hp.okb (by omega) (by omega), b, hp.tb, c, hp.rb, d, hp.ub⟩
      · exact ⟨a, hp.okb, b, hp.tb, c, hp.rb, d, hp.ub⟩
    obtain ⟨ok, hat⟩ := lend_pairs hL.code hT0 lo' lp' hpairs
    rw [eO, eP]
    refine ⟨ok, hat, fun _ k hk hk' => ?_, fun hy => ?_⟩
    · have hkP : k < (fills now P).length := by rw [fills_length]; exact hk
      have e := htop k hkP
      rw [List.getElem?_eq_getElem hk'] at e
      injection e with e
      rw [e, fills_at hk hkP]
      split
      · rfl
      · show _ = _ - 0
        rw [Int.sub_zero]
        rfl
    · rw [eF, decide_eq_false_iff_not] at hy
      omega
/-- What a climb adds. -/
def addL (n : Int) : List Int → List Int → List Int
  | S, [] => S
  | S, c :: r => addL n (match S[c.toNat]? with | some x => S.set c.toNat (x + n) | none => S) r
theorem addL_length (n : Int) : ∀ (L S : List Int), (addL n S L).length = S.length
  | [], S => rfl
  | c :: r, S => by
    unfold addL
    rw [addL_length n r]
    split
    · rw [List.length_set]
    · rfl
theorem addL_is (n : Int) : ∀ (L S : List Int), (∀ x ∈ L, 0 ≤ x) → L.Nodup → ∀ k (hk : k < S.length), (addL n S L)[k]? = some (S[k] + if (k : Int) ∈ L then n else 0)
  | [], S, _, _, k, hk => by
    show S[k]? = _
    rw [List.getElem?_eq_getElem hk]
    simp
  | c :: r, S, h0, hnd, k, hk => by
    unfold addL
    have hc := h0 c List.mem_cons_self
    obtain ⟨hnr, hnd'⟩ := List.nodup_cons.1 hnd
    have h0' : ∀ x ∈ r, 0 ≤ x := fun x hx => h0 x (List.mem_cons_of_mem _ hx)
    by_cases e : c.toNat = k
    · have ec : c = (k : Int) := by omega
      subst ec
      have hx : S[((k : Int)).toNat]? = some S[k] := by rw [Int.toNat_natCast, List.getElem?_eq_getElem hk]
      rw [hx]
      simp only
      rw [Int.toNat_natCast, addL_is n r _ h0' hnd' k (by rw [List.length_set]; exact hk)]
      simp [hnr]
    · have ec : ¬ (k : Int) = c := by omega
      have hm : ((k : Int) ∈ c :: r) ↔ ((k : Int) ∈ r) := by
        rw [List.mem_cons]
        exact ⟨fun h => h.resolve_left ec, .inr⟩
      simp only [hm]
      cases hq : S[c.toNat]? with
      | none => exact addL_is n r S h0' hnd' k hk
      | some x =>
        simp only
        rw [addL_is n r _ h0' hnd' k (by rw [List.length_set]; exact hk), List.getElem_set_ne e]
/-- What was spent below each class, beside the tops of a Lend at the time t; since the time s. -/
structure Bnd (T P : List Q4) (S : List Int) (s t : Int) (j : Nat) : Prop where
  len : S.length = T.length
  lp : P.length = T.length
  low : ∀ k (h : k < S.length), 0 ≤ S[k]
  few : ∀ k (h : k < S.length), S[k] ≤ 1500 * (j : Int)
  inv : ∀ k (h : k < S.length) (h1 : k < T.length) (h2 : k < P.length), 1000000000 * S[k] + P[k].2.2.1 ≤ 1000000000 * T[k].2.2.2 + T[k].2.2.1 * (t - s)
theorem fill_more {r u l t now : Int} (ht : t ≤ now) (hr : 0 ≤ r) : fillL r u l t now ≤ l + r * (now - t) := by
  unfold fillL
  split
  · have := Int.mul_nonneg hr (show 0 ≤ now - t by omega)
    omega
  · omega
theorem bnd_zero {T O P : List Q4} (h : IsLend T O P) : Bnd T P (List.replicate T.length 0) (atOf O) (atOf O) 0 := by
  refine ⟨by simp, h.lp, fun k hk => by simp, fun k hk => by simp, fun k hk h1 h2 => ?_⟩
  have hp := pair_ok (h.pair k h1 (by rw [h.lo]; exact h1) h2)
  have hb := bok_num hp.okb
  have e : P[k].2.1 = T[k].2.2.2 := hp.ub
  rw [List.getElem_replicate, Int.sub_self, Int.mul_zero]
  rw [← e]
  have : P[k].2.2.1 ≤ 1000000000 * P[k].2.1 := hb.2.2.1.2
  omega
theorem bnd_step {T O P : List Q4} {S : List Int} {s t leaf now n : Int} {j : Nat} {f : Bool} (h : toldB T O P leaf now n = true) (hf : spendF T O P leaf now n = f) (ht : atOf O = t) (b : Bnd T P S s t j) :
    Bnd T (spendP T O P leaf now n) (if f = true then addL n S (pathOf T leaf) else S) s now (j + 1) ∧ lendB T (spendO T O P leaf now n) (spendP T O P leaf now n) = true ∧ atOf (spendO T O P leaf now n) = now := by
  obtain ⟨hL, ⟨l0, l1⟩, htm, ha, hn⟩ := told_num h
  have hs := spent h
  have hw := hL.tree.sound.well
  have hmem := path_mem hw (leaf + 1).toNat leaf l1 (by omega)
  have hnd := path_nodup hw (leaf + 1).toNat leaf l1 (by omega)
  have h0 : ∀ x ∈ pathOf T leaf, 0 ≤ x := fun x hx => (hmem x hx).1
  have hL' := lend_of hs.ok
  refine ⟨?_, hs.ok, hs.tim⟩
  have hfill : ∀ k (h1 : k < T.length) (h2 : k < P.length), fillL P[k].1 P[k].2.1 P[k].2.2.1 P[k].2.2.2 now ≤ P[k].2.2.1 + T[k].2.2.1 * (now - t) := by
    intro k h1 h2
    have hp := pair_ok (hL.pair k h1 (by rw [hL.lo]; exact h1) h2)
    have hb := bok_num hp.okb
    have e1 : P[k].2.2.2 = t := hp.tb.trans ht
    have e2 : P[k].1 = T[k].2.2.1 := hp.rb
    have := fill_more (r := P[k].1) (u := P[k].2.1) (l := P[k].2.2.1) (t := P[k].2.2.2) (now := now) (by omega) hb.1.1
    rw [e1, e2] at this
    rw [e1, e2]
    exact this
  have hmul : ∀ c : Int, c * (t - s) + c * (now - t) = c * (now - s) := fun c => by
    rw [← Int.mul_add]
    congr 1
    omega
  cases f
  · rw [if_neg (show ¬ (false = true) by decide)]
    refine ⟨b.len, hL'.lp, b.low, fun k hk => by have := b.few k hk; omega, fun k hk h1 h2 => ?_⟩
    have hkP : k < P.length := by rw [hL.lp]; exact h1
    have e := hs.no hf k hkP h2
    have i0 := b.inv k hk h1 hkP
    have i1 := hfill k h1 hkP
    have i2 := hmul T[k].2.2.1
    show 1000000000 * S[k] + _ ≤ _
    rw [e]
    omega
  · have hadd : ∀ k (hk : k < S.length) (hk' : k < (addL n S (pathOf T leaf)).length), (addL n S (pathOf T leaf))[k] = S[k] + if (k : Int) ∈ pathOf T leaf then n else 0 := by
      intro k hk hk'
      have := addL_is n (pathOf T leaf) S h0 hnd k hk
      rw [List.getElem?_eq_getElem hk'] at this
      injection this
    simp only [if_true]
    refine ⟨by rw [addL_length, b.len], hL'.lp, fun k hk => ?_, fun k hk => ?_, fun k hk h1 h2 => ?_⟩
    · have hk0 : k < S.length := by rw [addL_length] at hk; exact hk
      rw [hadd k hk0 hk]
      have := b.low k hk0
      split <;> omega
    · have hk0 : k < S.length := by rw [addL_length] at hk; exact hk
      rw [hadd k hk0 hk]
      have := b.few k hk0
      split <;> omega
    · have hk0 : k < S.length := by rw [addL_length] at hk; exact hk
      have hkP : k < P.length := by rw [hL.lp]; exact h1
      have e := hs.yes hf k hkP h2
      have i0 := b.inv k hk0 h1 hkP
      have i1 := hfill k h1 hkP
      have i2 := hmul T[k].2.2.1
      rw [hadd k hk0 hk, e]
      split <;> omega
/-- So no sum is above its bound. -/
theorem bnd_bound {T O P Q : List Q4} {S : List Int} {s t : Int} {j k : Nat} (b : Bnd T Q S s t j) (hl : lendB T O P = true) (hT : ∀ (h1 : k < T.length) (h2 : k < Q.length), 0 ≤ Q[k].2.2.1) (hk : k < S.length) (hs : s ≤ t) (ht : t - s ≤ 64000000) : S[k] ≤ boundAns T O P (k : Int) (t - s) := by
  have h1 : k < T.length := by rw [← b.len]; exact hk
  have h2 : k < Q.length := by rw [b.lp]; exact h1
  have hL := lend_of hl
  have i0 := b.inv k hk h1 h2
  have q0 := hT h1 h2
  have hok : boundOk T O P (k : Int) (t - s) = true := by
    unfold boundOk timeB
    rw [hl, decide_eq_true (show (0 : Int) ≤ (k : Int) by omega), decide_eq_true (show (k : Int) ≤ (T.length : Int) - 1 by omega), decide_eq_true (show 0 ≤ t - s by omega), decide_eq_true (show t - s ≤ 1000000000000000 by omega)]
    rfl
  have hkP : k < P.length := by rw [hL.lp]; exact h1
  have hp := pair_ok (hL.pair k h1 (by rw [hL.lo]; exact h1) hkP)
  have hb := bok_num hp.okb
  rw [bound_yes (p := T[k].1) (r := T[k].2.1) (c := T[k].2.2.1) (u := T[k].2.2.2) hok h1 rfl]
  have e1 : P[k].1 = T[k].2.2.1 := hp.rb
  have e2 : P[k].2.1 = T[k].2.2.2 := hp.ub
  have c0 : 0 ≤ T[k].2.2.1 ∧ T[k].2.2.1 ≤ 1000000000000 := by rw [← e1]; exact hb.1
  have u0 : 0 ≤ T[k].2.2.2 ∧ T[k].2.2.2 ≤ 1000000000 := by rw [← e2]; exact hb.2.1
  have hby : bytesOf T[k].2.2.1 (t - s) = T[k].2.2.1 * (t - s) / 1000000000 := bytes_in (by omega) (by omega) (by omega) (by omega)
  have hX0 := Int.mul_nonneg c0.1 (show 0 ≤ t - s by omega)
  have hX1 : T[k].2.2.1 * (t - s) ≤ 1000000000000 * 64000000 := Int.mul_le_mul c0.2 ht (by omega) (by omega)
  unfold upOf
  rw [hby]
  generalize T[k].2.2.1 * (t - s) = X at *
  split
  · simp only [wrap64]
    omega
  · simp only [wrap64]
    omega
end Go.Proofs.Ytmophpbfaonfmac
