/- Lemmas on the way, of several texts: ConRow, ImplCon. -/
import Derived.Test.YtibfclfidaofkasGrpAE
import Derived.Test.YtibfclfidaofkasFlwRow
import Derived.Test.YtibfclfidaofkasGrpW
import Derived.Test.YtibfclfidaofkasGrpH
import Derived.Test.YtibfclfidaofkasGrpC
import Derived.Lib.SliceRun
import Derived.Deep.QuietTactic
import Derived.BigQuiet
namespace Go.Proofs.Ytibfclfidaofkas
open Go.ChangeShapes Go.WideShapes Go.ChangeAt Go.RowKit
set_option maxRecDepth 100000
set_option linter.unusedVariables false
set_option linter.unusedSimpArgs false

/-- A connection and where its list lies. -/
abbrev G14 := Kn × Value
def cs14 (x : G14) : List Value := x.1.cs ++ [x.2]
theorem cs14_length (x : G14) : (cs14 x).length = 14 := rfl
def flatK (G : List G14) : List Value := G.flatMap cs14
theorem flatK_append (a b : List G14) : flatK (a ++ b) = flatK a ++ flatK b := List.flatMap_append
theorem flatK_length (G : List G14) : (flatK G).length = G.length * 14 := by
  induction G with
  | nil => rfl
  | cons x r ih =>
    show (cs14 x ++ flatK r).length = _
    rw [List.length_append, ih, cs14_length, List.length_cons]
    omega
theorem flatK_get (G : List G14) : ∀ i (h : i < G.length) j, j < 14 → (flatK G)[i * 14 + j]? = (cs14 G[i])[j]? := by
  induction G with
  | nil => intro i h; cases h
  | cons x r ih =>
    intro i h j hj
    show (cs14 x ++ flatK r)[i * 14 + j]? = _
    cases i with
    | zero =>
      rw [Nat.zero_mul, Nat.zero_add, List.getElem?_append_left (by rw [cs14_length]; exact hj)]
      rfl
    | succ i =>
      rw [List.getElem?_append_right (by rw [cs14_length]; omega), cs14_length, show (i + 1) * 14 + j - 14 = i * 14 + j by omega]
      exact ih i (by simpa using h) j hj
/-- The rows' connections, their lists to be read. -/
structure VK (B : Nat) (w : World) (G : List G14) (K : List Kn) : Prop where
  fst : G.map Prod.fst = K
  at' : ∀ i (h : i < G.length), SzV B w G[i].2 G[i].1.xs
theorem VK.len {B : Nat} {w : World} {G : List G14} {K : List Kn} (h : VK B w G K) : G.length = K.length := by rw [← h.fst, List.length_map]
theorem VK.get {B : Nat} {w : World} {G : List G14} {K : List Kn} (h : VK B w G K) {i : Nat} (h1 : i < G.length) (h2 : i < K.length) : G[i].1 = K[i] := by
  have : (G.map Prod.fst)[i]? = K[i]? := by rw [h.fst]
  rw [List.getElem?_map, List.getElem?_eq_getElem h1, List.getElem?_eq_getElem h2] at this
  exact Option.some.inj this
theorem VK.one {B : Nat} {w : World} {G : List G14} {K : List Kn} (h : VK B w G K) : ∀ u ∈ flatK G, u.oneCell' = true := by
  intro u hu
  obtain ⟨x, hx, hu⟩ := List.mem_flatMap.1 hu
  obtain ⟨i, hi, rfl⟩ := List.mem_iff_getElem.1 hx
  obtain ⟨sa, sc, e, _⟩ := h.at' i hi
  simp only [cs14, Kn.cs, List.mem_append, List.mem_cons, List.not_mem_nil, or_false] at hu
  rcases hu with (rfl | rfl | rfl | rfl | rfl | rfl | rfl | rfl | rfl | rfl | rfl | rfl | rfl) | rfl
  all_goals first | rfl | (rw [e]; rfl)
theorem VK.mono {B : Nat} {w x : World} {G : List G14} {K : List Kn} (h : VK B w G K) (hb : Below B w x) : VK B x G K := ⟨h.fst, fun i hi => (h.at' i hi).mono hb⟩
theorem VK.here {w x : World} {G : List G14} {K : List Kn} (h : VK w.heap.size w G K) (hb : Below w.heap.size w x) : VK x.heap.size x G K := ⟨h.fst, fun i hi => (h.at' i hi).here hb⟩
theorem VK.filter {B : Nat} {w : World} {G : List G14} {K : List Kn} (h : VK B w G K) (p : Kn → Bool) : VK B w (G.filter (fun x => p x.1)) (K.filter p) := by
  refine ⟨?_, fun i hi => ?_⟩
  · rw [← h.fst, List.filter_map]
    rfl
  · have hm := List.getElem_mem hi
    obtain ⟨hm, _⟩ := List.mem_filter.1 hm
    obtain ⟨j, hj, e⟩ := List.mem_iff_getElem.1 hm
    rw [← e]
    exact h.at' j hj
theorem addr_add (b o j : Nat) : (⟨b, o, none⟩ : Addr).add j = ⟨b, o + j, none⟩ := by unfold Addr.add; split <;> simp_all
theorem Kls.vals {B : Nat} {w : World} {a : Option Addr} {K : List Kn} (h : Kls B w a K) (hn : 0 < K.length) :
    ∃ b off G, a = some ⟨b, off, none⟩ ∧ b < B ∧ VK B w G K ∧ ∀ j u, (flatK G)[j]? = some u → w.cell? ((⟨b, off, none⟩ : Addr).add j) = some u := by
  obtain ⟨b, off, sa, sc, rfl, hb, _⟩ := h 0 hn
  have one : ∀ i, i < K.length → ∃ x : G14, ∀ h' : i < K.length, (x.1 = K[i] ∧ SzV B w x.2 x.1.xs) ∧ ∀ j u, (cs14 x)[j]? = some u → w.cell? ⟨b, off + i * 14 + j, none⟩ = some u := by
    intro i hi
    obtain ⟨b', off', sa, sc, e, _, c0, c1, s⟩ := h i hi
    injection e with e
    injection e with e1 e2
    subst e1 e2
    refine ⟨(K[i], .slice sa K[i].xs.length sc), fun _ => ⟨⟨rfl, sa, sc, rfl, s⟩, fun j u hu => ?_⟩⟩
    have hj := (List.getElem?_eq_some_iff.1 hu).1
    rw [cs14_length] at hj
    by_cases e : j = 13
    · subst e
      have : Value.slice sa K[i].xs.length sc = u := by
        have : (cs14 (K[i], Value.slice sa K[i].xs.length sc))[13]? = some (.slice sa K[i].xs.length sc) := rfl
        rw [this] at hu
        exact Option.some.inj hu
      rw [← this]
      exact c1
    · refine c0 j u ?_
      unfold cs14 at hu
      rw [List.getElem?_append_left (by rw [Kn.len]; omega)] at hu
      exact hu
  obtain ⟨G, hl, hG⟩ := pick_list one
  refine ⟨b, off, G, rfl, hb, ⟨?_, fun i hi => (hG i hi (by omega)).1.2⟩, fun j u hu => ?_⟩
  · apply List.ext_getElem
    · rw [List.length_map, hl]
    · intro i h1 h2
      rw [List.getElem_map]
      exact (hG i (by omega) h2).1.1
  · have hj : j < (flatK G).length := (List.getElem?_eq_some_iff.1 hu).1
    rw [flatK_length] at hj
    rw [addr_add]
    have hi : j / 14 < G.length := by omega
    have hg := flatK_get G (j / 14) hi (j % 14) (by omega)
    rw [show j / 14 * 14 + j % 14 = j by omega, hu] at hg
    have := (hG (j / 14) hi (by omega)).2 (j % 14) u hg.symm
    rw [show off + j / 14 * 14 + j % 14 = off + j by omega] at this
    exact this
/-! A row is stored into. -/
def setL (xs : List Value) : Nat → List Value → List Value
  | _, [] => xs
  | s, v :: r => setL (xs.set s v) (s + 1) r
theorem row_setL {base : Nat} {e : TypeId} {g n cap m : Nat} : ∀ (vs : List Value) (s : Nat) (w : World) (xs : List Value), w.ownsRow base e m (.slice (some ⟨g, 0, none⟩) n cap) n xs → (w.setCells g s vs).ownsRow base e m (.slice (some ⟨g, 0, none⟩) n cap) n (setL xs s vs)
  | [], _, _, _, h => h
  | v :: r, s, w, xs, h => row_setL r (s + 1) _ _ (h.stored s v).1
theorem setL_length : ∀ (vs xs : List Value) (s : Nat), (setL xs s vs).length = xs.length
  | [], _, _ => rfl
  | v :: r, xs, s => by
    show (setL (xs.set s v) (s + 1) r).length = _
    rw [setL_length r, List.length_set]
theorem setL_get : ∀ (vs xs : List Value) (s j : Nat), s + vs.length ≤ xs.length → (setL xs s vs)[j]? = if s ≤ j ∧ j < s + vs.length then vs[j - s]? else xs[j]?
  | [], xs, s, j, _ => by
    show xs[j]? = _
    rw [if_neg (by simp)]
  | v :: r, xs, s, j, h => by
    show (setL (xs.set s v) (s + 1) r)[j]? = _
    rw [List.length_cons] at h
    rw [setL_get r _ _ _ (by rw [List.length_set]; omega), List.getElem?_set, List.length_cons]
    by_cases h1 : j = s
    · subst h1
      rw [if_neg (by omega), if_pos rfl, if_pos (by omega), if_pos (by omega), Nat.sub_self]
      rfl
    · by_cases h2 : s + 1 ≤ j ∧ j < s + 1 + r.length
      · rw [if_pos h2, if_pos (by omega), show j - s = j - (s + 1) + 1 by omega, List.getElem?_cons_succ]
      · rw [if_neg h2, if_neg (fun e => h1 e.symm), if_neg (by omega)]
theorem flatK_set (G : List G14) {i : Nat} (hi : i < G.length) (x : G14) : setL (flatK G) (i * 14) (cs14 x) = flatK (G.set i x) := by
  apply List.ext_getElem?
  intro j
  rw [setL_get _ _ _ _ (by rw [flatK_length, cs14_length]; omega), cs14_length]
  by_cases hj : j < G.length * 14
  · have h1 := flatK_get (G.set i x) (j / 14) (by rw [List.length_set]; omega) (j % 14) (by omega)
    have h2 := flatK_get G (j / 14) (by omega) (j % 14) (by omega)
    rw [show j / 14 * 14 + j % 14 = j by omega] at h1 h2
    rw [h1, h2, List.getElem_set]
    by_cases e : i = j / 14
    · rw [if_pos (by omega), if_pos e, show j - i * 14 = j % 14 by omega]
    · rw [if_neg (by omega), if_neg e]
  · rw [if_neg (by omega), List.getElem?_eq_none (by rw [flatK_length]; omega), List.getElem?_eq_none (by rw [flatK_length, List.length_set]; omega)]
theorem flatK_take (G : List G14) (i : Nat) : (flatK G).take (i * 14) = flatK (G.take i) := by
  apply List.ext_getElem?
  intro j
  rw [List.getElem?_take]
  by_cases hj : j < i * 14
  · rw [if_pos hj]
    by_cases h2 : j < G.length * 14
    · have h1 := flatK_get (G.take i) (j / 14) (by rw [List.length_take]; omega) (j % 14) (by omega)
      have h2 := flatK_get G (j / 14) (by omega) (j % 14) (by omega)
      rw [show j / 14 * 14 + j % 14 = j by omega] at h1 h2
      rw [h1, h2, List.getElem_take]
    · rw [List.getElem?_eq_none (by rw [flatK_length]; omega), List.getElem?_eq_none (by rw [flatK_length, List.length_take]; omega)]
  · rw [if_neg hj, List.getElem?_eq_none (by rw [flatK_length, List.length_take]; omega)]
theorem rowK_cut {w : World} {base : Nat} {e : TypeId} {g n cap i m : Nat} {xs : List Value} (h : w.ownsRow base e m (.slice (some ⟨g, 0, none⟩) n cap) n xs) (hi : i ≤ n) : w.ownsRow base e m (.slice (some ⟨g, 0, none⟩) i cap) i (xs.take (i * m)) := by
  rcases h.2 with ⟨h', _⟩ | ⟨g', cap', cur, h', hb, hg, hnc, hcm, hcs, htake⟩
  · cases h'
  · injection h' with e1 _ e3
    injection e1 with e1
    injection e1 with e1
    subst e1 e3
    have hl := h.1
    have hm : i * m ≤ n * m := Nat.mul_le_mul_right _ hi
    refine ⟨by rw [List.length_take, hl]; omega, .inr ⟨g, cap, cur, rfl, hb, hg, by omega, hcm, hcs, ?_⟩⟩
    rw [← htake, List.take_take]
    congr 1
    omega
theorem rowK_past {base : Nat} {e : TypeId} {g n cap m : Nat} {xs : List Value} : ∀ (vs : List Value) (s : Nat) (w : World), w.ownsRow base e m (.slice (some ⟨g, 0, none⟩) n cap) n xs → n * m ≤ s → (w.setCells g s vs).ownsRow base e m (.slice (some ⟨g, 0, none⟩) n cap) n xs
  | [], s, w, h, _ => h
  | v :: r, s, w, h, hs => by
    have k := (h.stored s v).1
    rw [List.set_eq_of_length_le (by rw [h.1]; exact hs)] at k
    exact rowK_past r (s + 1) _ k (by omega)
theorem belowK_set {B g : Nat} (hg : B ≤ g) : ∀ (vs : List Value) (s : Nat) (w x : World), Below B w x → Below B w (x.setCells g s vs)
  | [], s, w, x, h => h
  | v :: r, s, w, x, h => belowK_set hg r (s + 1) w _ (h.setCell (by exact hg) v)
/-- What a row holds can be read. -/
theorem rowK_kls {w : World} {base B g n cap : Nat} {e : TypeId} {G : List G14} {K : List Kn} (h : w.ownsRow base e 14 (.slice (some ⟨g, 0, none⟩) n cap) n (flatK G)) (hv : VK B w G K) (hB : B ≤ w.heap.size) : Kls w.heap.size w (some ⟨g, 0, none⟩) K := by
  intro i hi
  have hl := h.1
  rw [flatK_length] at hl
  have hgl := hv.len
  have hz := (h.lt g rfl).2
  have hi' : i < G.length := by omega
  have hgi := hv.get hi' hi
  obtain ⟨sa, sc, e, s⟩ := hv.at' i hi'
  have hc : ∀ j u, (cs14 G[i])[j]? = some u → w.cell? ⟨g, 0 + i * 14 + j, none⟩ = some u := fun j u hu => by
    have hj := (List.getElem?_eq_some_iff.1 hu).1
    rw [cs14_length] at hj
    rw [Nat.zero_add]
    exact (h.cellAt _ (by omega)).trans ((flatK_get G i hi' j hj).trans hu)
  rw [← hgi]
  refine ⟨g, 0, sa, sc, rfl, hz, fun j u hu => hc j u ?_, ?_, s.up hB⟩
  · unfold cs14
    rw [List.getElem?_append_left (List.getElem?_eq_some_iff.1 hu).1]
    exact hu
  · exact (hc 13 G[i].2 rfl).trans (by rw [e])
end Go.Proofs.Ytibfclfidaofkas
namespace Go.Proofs.Ytibfclfidaofkas
open Go.ChangeShapes Go.WideShapes Go.ChangeAt Go.RowKit
set_option maxRecDepth 100000
set_option linter.unusedVariables false
set_option linter.unusedSimpArgs false

theorem iv_smpE {w : World} {lo : Nat} {a : Option Addr} {n c : Nat} {xs : List Int} (h : IV w lo (.slice a n c) xs) : ISmp w.heap.size w a xs := by
  rcases h with ⟨g, cap, e, h1, h2, f, hc⟩ | ⟨e, rfl⟩
  · injection e with e1 e2 e3
    subst e1
    exact fun i hi => ⟨g, 0, rfl, h2, by rw [Nat.zero_add]; exact f.got i hi hi⟩
  · exact fun i hi => by cases hi
set_option maxHeartbeats 4000000 in
theorem idsOf_any {w : World} {a : Option Addr} (cap : Nat) {K : List Kn} (h : Kls w.heap.size w a K) (hl : K.length ≤ 1048576) :
    Calls Try.prog 32 #[.slice a K.length cap] w fun e w' => ∃ u c, e = .returned (.slice u K.length c) ∧ ISmp w'.heap.size w' u (idsK K) ∧ Below w.heap.size w w' := by
  obtain ⟨j0, hj, jz0, jz1, jz2⟩ := info_parts info_i64
  have hli : (K.length : Int) ≤ 1048576 := by omega
  go_enter Try.func32, Try.ntmps32
  go_wp2
  go_loopw [3, 8] (fun s3 s8 wr => ∃ k : Nat, s8 = .int .i64 k ∧ k ≤ K.length ∧ Hid (wr.ownsRow w.heap.size 2 1 s3 k (flatI (idsK (K.take k)))) ∧ Below w.heap.size w wr) (fun _ s8 _ => K.length - (intOf s8).toNat)
  case atStart => exact ⟨0, rfl, by omega, ⟨rfl, .inl ⟨rfl, rfl⟩⟩, Below.refl _ _⟩
  case round =>
    obtain ⟨k, rfl, hk, HO, hbw⟩ := hrel
    obtain ⟨av, cv, hsv⟩ := own_slice HO.out
    subst hsv
    by_cases hlt : k < K.length
    · have hlt' : (k : Int) < (K.length : Int) := by omega
      obtain ⟨b, off, sa, sc, hak, hbl, d0, d13, sm⟩ := h.at hbw k hlt
      subst hak
      obtain ⟨c, hc⟩ : ∃ c, K[k] = c := ⟨_, rfl⟩
      have HX : Hid (K[k] = c) := hc
      rw [hc] at d0 d13 sm
      clear hc
      have e0 : wr.cell? ⟨b, off + k * 14, none⟩ = some (.int .i64 c.id) := d0 0 _ rfl
      have e1 : wr.cell? ⟨b, off + k * 14 + 1, none⟩ = some (.int .i64 c.lf) := d0 1 _ rfl
      have e2 : wr.cell? ⟨b, off + k * 14 + 2, none⟩ = some (.int .i64 c.pl) := d0 2 _ rfl
      have e3 : wr.cell? ⟨b, off + k * 14 + 3, none⟩ = some (.int .i64 c.k) := d0 3 _ rfl
      have e4 : wr.cell? ⟨b, off + k * 14 + 4, none⟩ = some (.int .i64 c.wn) := d0 4 _ rfl
      have e5 : wr.cell? ⟨b, off + k * 14 + 5, none⟩ = some (.int .i64 c.th) := d0 5 _ rfl
      have e6 : wr.cell? ⟨b, off + k * 14 + 6, none⟩ = some (.int .i64 c.fl) := d0 6 _ rfl
      have e7 : wr.cell? ⟨b, off + k * 14 + 7, none⟩ = some (.int .i64 c.ac) := d0 7 _ rfl
      have e8 : wr.cell? ⟨b, off + k * 14 + 8, none⟩ = some (.int .i64 c.la) := d0 8 _ rfl
      have e9 : wr.cell? ⟨b, off + k * 14 + 9, none⟩ = some (.int .i64 c.og) := d0 9 _ rfl
      have e10 : wr.cell? ⟨b, off + k * 14 + 10, none⟩ = some (.int .i64 c.st) := d0 10 _ rfl
      have e11 : wr.cell? ⟨b, off + k * 14 + 11, none⟩ = some (.int .i64 c.fr) := d0 11 _ rfl
      have e12 : wr.cell? ⟨b, off + k * 14 + 12, none⟩ = some (.bool c.sl) := d0 12 _ rfl
      have e13 : wr.cell? ⟨b, off + k * 14 + 13, none⟩ = some (.slice sa c.xs.length sc) := d13
      have HN : Hid (flatI (idsK (K.take (k + 1))) = flatI (idsK (K.take k)) ++ flatI [c.id]) := by
        show flatI (idsK (K.take (k + 1))) = _
        rw [take_next K hlt, idsK_append, flatI_append, HX.out]
        rfl
      go_upto_region 5 with (fail)
      obtain ⟨y, hy⟩ : ∃ y, y = wr.alloc (.cells #[.int .i64 c.id, .int .i64 c.lf, .int .i64 c.pl, .int .i64 c.k, .int .i64 c.wn, .int .i64 c.th, .int .i64 c.fl, .int .i64 c.ac, .int .i64 c.la, .int .i64 c.og, .int .i64 c.st, .int .i64 c.fr, .bool c.sl, .slice sa c.xs.length sc] 64) := ⟨_, rfl⟩
      rw [← hy]
      have y0 : Lay y wr.heap.size [.int .i64 c.id, .int .i64 c.lf, .int .i64 c.pl, .int .i64 c.k, .int .i64 c.wn, .int .i64 c.th, .int .i64 c.fl, .int .i64 c.ac, .int .i64 c.la, .int .i64 c.og, .int .i64 c.st, .int .i64 c.fr, .bool c.sl, .slice sa c.xs.length sc] := by rw [hy]; exact lay_new [.int .i64 c.id, .int .i64 c.lf, .int .i64 c.pl, .int .i64 c.k, .int .i64 c.wn, .int .i64 c.th, .int .i64 c.fl, .int .i64 c.ac, .int .i64 c.la, .int .i64 c.og, .int .i64 c.st, .int .i64 c.fr, .bool c.sl, .slice sa c.xs.length sc] _ rfl
      have b1 : Below wr.heap.size wr y := by rw [hy]; exact new_below _ _
      clear hy
      have f0 : y.cell? ⟨wr.heap.size, 0, none⟩ = some (.int .i64 c.id) := y0.cell 0 _ rfl
      have HO1 := row_next HO.out b1
      have bwy := below_two hbw b1
      have zz := bwy.size
      go_wp2_with (first
        | (at_builtin; refine wpList_append_own _ rfl _ _ 62 rfl w.heap.size 2 j0 _ 1 8 Try.underlying62 hj jz0 jz1 jz2 rfl (by decide) _ _ _ rfl (HO1.alloc _) ⟨y.heap.size, 0, none⟩ 1 1 [.int .i64 c.id] rfl rfl ?c1 ?c2 ?c3 ?c4 ?c5 ?c6; rotate_left 5; intro v' w' hown' hgr hnil; have hb2 := below_app bwy hgr (fun g hg => (HO.out.lt g hg).1)))
      case c1 => exact one_news (by go_simp)
      case c2 => exact flatI_one [c.id]
      case c3 => unfold maxLen; omega
      case c4 => omega
      case c5 => simp; omega
      go_roundw
      case rel => exact ⟨k + 1, by go_num, by omega, (by rw [HN.out]; exact hown'), hb2⟩
      case measure => first | (simp [intOf]; done) | (simp [intOf]; omega)
    · have e : k = K.length := by omega
      subst e
      have HE : Hid (IV wr w.heap.size (.slice av K.length cv) (idsK K)) := by
        have q := HO.out
        rw [List.take_length] at q
        rw [show K.length = (idsK K).length from (idsK_length K).symm] at q ⊢
        exact own_ints q
      go_wp2
      go_ret
      exact ⟨av, cv, rfl, iv_smpE HE.out, hbw⟩
theorem flK_bd {K : List Kn} (h : ∀ c ∈ K, 0 ≤ c.fl ∧ c.fl ≤ 1000000000) : 0 ≤ flK K ∧ flK K ≤ 1000000000 * (K.length : Int) := by
  induction K with
  | nil => simp [flK]
  | cons c r ih =>
    have h1 := h c (List.mem_cons_self ..)
    have h2 := ih (fun x hx => h x (List.mem_cons_of_mem _ hx))
    simp only [flK, List.length_cons]
    omega
set_option maxHeartbeats 4000000 in
theorem flightOf_any {w : World} {a : Option Addr} (cap : Nat) {K : List Kn} (h : Kls w.heap.size w a K) (hl : K.length ≤ 40) (hb : ∀ c ∈ K, 0 ≤ c.fl ∧ c.fl ≤ 1000000000) :
    Calls Try.prog 76 #[.slice a K.length cap] w fun e w' => e = .returned (.int .i64 (flK K)) ∧ Below w.heap.size w w' := by
  have hli : (K.length : Int) ≤ 40 := by omega
  have HB : Hid (∀ c ∈ K, 0 ≤ c.fl ∧ c.fl ≤ 1000000000) := hb
  clear hb
  go_enter Try.func76, Try.ntmps76
  go_wp2
  go_loopw [3, 8] (fun s3 s8 wr => ∃ k : Nat, s8 = .int .i64 k ∧ k ≤ K.length ∧ s3 = .int .i64 (flK (K.take k)) ∧ Below w.heap.size w wr) (fun _ s8 _ => K.length - (intOf s8).toNat)
  case atStart => exact ⟨0, rfl, by omega, rfl, Below.refl _ _⟩
  case round =>
    obtain ⟨k, rfl, hk, rfl, hbw⟩ := hrel
    by_cases hlt : k < K.length
    · have hlt' : (k : Int) < (K.length : Int) := by omega
      obtain ⟨b, off, sa, sc, hak, hbl, d0, d13, sm⟩ := h.at hbw k hlt
      subst hak
      obtain ⟨c, hc⟩ : ∃ c, K[k] = c := ⟨_, rfl⟩
      have HX : Hid (K[k] = c) := hc
      rw [hc] at d0 d13 sm
      clear hc
      have e0 : wr.cell? ⟨b, off + k * 14, none⟩ = some (.int .i64 c.id) := d0 0 _ rfl
      have e1 : wr.cell? ⟨b, off + k * 14 + 1, none⟩ = some (.int .i64 c.lf) := d0 1 _ rfl
      have e2 : wr.cell? ⟨b, off + k * 14 + 2, none⟩ = some (.int .i64 c.pl) := d0 2 _ rfl
      have e3 : wr.cell? ⟨b, off + k * 14 + 3, none⟩ = some (.int .i64 c.k) := d0 3 _ rfl
      have e4 : wr.cell? ⟨b, off + k * 14 + 4, none⟩ = some (.int .i64 c.wn) := d0 4 _ rfl
      have e5 : wr.cell? ⟨b, off + k * 14 + 5, none⟩ = some (.int .i64 c.th) := d0 5 _ rfl
      have e6 : wr.cell? ⟨b, off + k * 14 + 6, none⟩ = some (.int .i64 c.fl) := d0 6 _ rfl
      have e7 : wr.cell? ⟨b, off + k * 14 + 7, none⟩ = some (.int .i64 c.ac) := d0 7 _ rfl
      have e8 : wr.cell? ⟨b, off + k * 14 + 8, none⟩ = some (.int .i64 c.la) := d0 8 _ rfl
      have e9 : wr.cell? ⟨b, off + k * 14 + 9, none⟩ = some (.int .i64 c.og) := d0 9 _ rfl
      have e10 : wr.cell? ⟨b, off + k * 14 + 10, none⟩ = some (.int .i64 c.st) := d0 10 _ rfl
      have e11 : wr.cell? ⟨b, off + k * 14 + 11, none⟩ = some (.int .i64 c.fr) := d0 11 _ rfl
      have e12 : wr.cell? ⟨b, off + k * 14 + 12, none⟩ = some (.bool c.sl) := d0 12 _ rfl
      have e13 : wr.cell? ⟨b, off + k * 14 + 13, none⟩ = some (.slice sa c.xs.length sc) := d13
      obtain ⟨s, hs⟩ : ∃ s, flK (K.take k) = s := ⟨_, rfl⟩
      have HN : Hid (flK (K.take (k + 1)) = s + c.fl) := by
        show flK (K.take (k + 1)) = _
        rw [take_next K hlt, flK_append, hs, HX.out]
        simp [flK]
      have hs1 : 0 ≤ s ∧ s ≤ 1000000000 * (k : Int) := by
        have q := flK_bd (K := K.take k) (fun x hx => HB.out x (List.mem_of_mem_take hx))
        rw [hs, List.length_take, Nat.min_eq_left hk] at q
        exact q
      have hc1 : 0 ≤ c.fl ∧ c.fl ≤ 1000000000 := by
        have q := HB.out K[k] (List.getElem_mem hlt)
        rw [HX.out] at q
        exact q
      have hwr : IntKind.i64.wrap (s + c.fl) = s + c.fl := by rw [IntKind.wrap_i64]; omega
      rw [hs]
      clear hs hs1 hc1
      go_upto_region 5 with (fail)
      obtain ⟨y, hy⟩ : ∃ y, y = wr.alloc (.cells #[.int .i64 c.id, .int .i64 c.lf, .int .i64 c.pl, .int .i64 c.k, .int .i64 c.wn, .int .i64 c.th, .int .i64 c.fl, .int .i64 c.ac, .int .i64 c.la, .int .i64 c.og, .int .i64 c.st, .int .i64 c.fr, .bool c.sl, .slice sa c.xs.length sc] 64) := ⟨_, rfl⟩
      rw [← hy]
      have y0 : Lay y wr.heap.size [.int .i64 c.id, .int .i64 c.lf, .int .i64 c.pl, .int .i64 c.k, .int .i64 c.wn, .int .i64 c.th, .int .i64 c.fl, .int .i64 c.ac, .int .i64 c.la, .int .i64 c.og, .int .i64 c.st, .int .i64 c.fr, .bool c.sl, .slice sa c.xs.length sc] := by rw [hy]; exact lay_new [.int .i64 c.id, .int .i64 c.lf, .int .i64 c.pl, .int .i64 c.k, .int .i64 c.wn, .int .i64 c.th, .int .i64 c.fl, .int .i64 c.ac, .int .i64 c.la, .int .i64 c.og, .int .i64 c.st, .int .i64 c.fr, .bool c.sl, .slice sa c.xs.length sc] _ rfl
      have b1 : Below wr.heap.size wr y := by rw [hy]; exact new_below _ _
      clear hy
      have f0 : y.cell? ⟨wr.heap.size, 6, none⟩ = some (.int .i64 c.fl) := y0.cell 6 _ rfl
      go_wp2
      go_roundw
      case rel => exact ⟨k + 1, by go_num, by omega, by rw [HN.out], below_two hbw b1⟩
      case measure => first | (simp [intOf]; done) | (simp [intOf]; omega)
    · have e : k = K.length := by omega
      subst e
      rw [List.take_length]
      go_wp2
      go_ret
      exact ⟨rfl, hbw⟩
theorem info_connI : (Try.prog.info? 64).map (fun i => (i.zero, i.size, i.bytes)) = some (some (.agg #[.int .i64 0, .int .i64 0, .int .i64 0, .int .i64 0, .int .i64 0, .int .i64 0, .int .i64 0, .int .i64 0, .int .i64 0, .int .i64 0, .int .i64 0, .int .i64 0, .bool false, .slice none 0 0]), 14, 128) := by kernel_rfl
/-- A row of connections of the call's own; their lists lie where they lay. -/
def ConnPost (B : Nat) (w : World) (K : List Kn) (e : Ending) (w' : World) : Prop := ∃ v G, e = .returned v ∧ VK B w G K ∧ w'.ownsRow w.heap.size 64 14 v K.length (flatK G) ∧ Below w.heap.size w w'
set_option maxHeartbeats 2000000 in
theorem cloneK_any {B : Nat} {w : World} {a : Option Addr} (cap : Nat) {K : List Kn} (h : Kls B w a K) (hB : B ≤ w.heap.size) (hl : K.length ≤ 1048576) :
    Calls Try.prog 108 #[.slice a K.length cap] w (ConnPost B w K) := by
  obtain ⟨i0, hi, hz0, hz1, hz2⟩ := info_parts info_connI
  have q : ∀ (w : World) (a : Option Addr) (n c n' c' : Nat), (binOp .eql 37 (.slice a n c) (.slice none n' c')).run Try.prog w = .ok (.bool a.isNone) w := fun w a n c n' c' => Lib.run_eql_slice_nil w _ _ a n c n' c' Try.underlying37
  cases a with
  | none =>
    have hx : K = [] := by
      cases K with
      | nil => rfl
      | cons x r => obtain ⟨b, off, sa, sc, e, _⟩ := h 0 (by simp); cases e
    subst hx
    go_enter Try.func108, Try.ntmps108
    go_wp2
    go_ret
    exact ⟨_, [], rfl, ⟨rfl, fun i hi => by cases hi⟩, ⟨rfl, .inl ⟨rfl, rfl⟩⟩, Below.refl _ _⟩
  | some ad =>
    have HG : ∃ G, VK B w G K ∧ ∀ j u, (flatK G)[j]? = some u → (w.alloc (.cells #[] 64)).cell? (ad.add j) = some u := by
      by_cases hn : 0 < K.length
      · obtain ⟨b, off, G, e, hb, hV, hN⟩ := h.vals hn
        injection e with e
        subst e
        refine ⟨G, hV, fun j u hj => ?_⟩
        have hc := hN j u hj
        rw [addr_add] at hc ⊢
        exact ((new_below w (.cells #[] 64)).cell (p := ⟨b, off + j, none⟩) (Nat.lt_of_lt_of_le hb hB)).trans hc
      · obtain rfl : K = [] := List.eq_nil_of_length_eq_zero (by omega)
        exact ⟨[], ⟨rfl, fun i hi => by cases hi⟩, fun j u hj => by cases hj⟩
    obtain ⟨G, hV, hA⟩ := HG
    have A : Hid (∀ j u, (flatK G)[j]? = some u → (w.alloc (.cells #[] 64)).cell? (ad.add j) = some u) := hA
    have hgl := hV.len
    have ON : Hid ((w.alloc (.cells #[] 64)).ownsRow w.heap.size 64 14 (.slice (some ⟨w.heap.size, 0, none⟩) 0 0) 0 []) := ⟨rfl, .inr ⟨w.heap.size, 0, #[], rfl, Nat.le_refl _, heap_alloc_new _ _, Nat.le_refl _, by unfold maxLen; omega, rfl, rfl⟩⟩
    have HV1 : Hid (∀ u ∈ flatK G, u.oneCell' = true) := hV.one
    have HV : Hid (VK B w G K) := hV
    have HL : Hid ((flatK G).length = K.length * 14) := by rw [flatK_length, hgl]; exact rfl
    clear hA hV hgl
    go_enter Try.func108, Try.ntmps108
    go_wp2_with (at_builtin; refine wpList_append_own _ rfl _ _ 37 rfl w.heap.size 64 i0 _ 14 128 Try.underlying37 hi hz0 hz1 hz2 rfl (by decide) _ 0 [] rfl ON.out ad K.length cap (flatK G) rfl HL.out A.out HV1.out (by unfold maxLen; omega) (by omega) (by simp) ?_; intro v' w1 hown hgr hnil)
    go_ret
    have hbw : Below w.heap.size w w1 := ((Below.refl _ w).alloc (Nat.le_refl _) _).grown hgr (by simp) (fun k hk => Nat.le_of_eq (Option.some.inj hk))
    rw [Nat.zero_add, List.nil_append] at hown
    exact ⟨v', G, rfl, HV.out, hown, hbw⟩
set_option maxHeartbeats 4000000 in
theorem sEqual_any {w : World} {a b : Option Addr} (ca cb : Nat) {xs ys : List Int} (h : ISmp w.heap.size w a xs) (h' : ISmp w.heap.size w b ys) (hl : xs.length ≤ 1048576) (hl' : ys.length ≤ 1048576) :
    Calls Try.prog 77 #[.slice a xs.length ca, .slice b ys.length cb] w fun e w' => e = .returned (.bool (decide (xs = ys))) ∧ Below w.heap.size w w' := by
  by_cases hn : xs.length = ys.length
  rotate_left
  · have HD : Hid (decide (xs = ys) = false) := decide_eq_false (fun e => hn (by rw [e]))
    have hn' : ((xs.length : Int) == (ys.length : Int)) = false := by rw [beq_eq_false_iff_ne]; omega
    clear hn
    go_enter Try.func77, Try.ntmps77
    go_wp2
    go_ret
    exact ⟨retC HD.out.symm, Below.refl _ _⟩
  have HN : Hid (xs.length = ys.length) := hn
  have hli : (xs.length : Int) ≤ 1048576 := by omega
  rw [← hn]
  clear hn hl'
  go_enter Try.func77, Try.ntmps77
  go_wp2
  go_loopw [13] (fun s wr => ∃ k : Nat, s = .int .i64 k ∧ k ≤ xs.length ∧ Hid (∀ j (h : j < xs.length) (h' : j < ys.length), j < k → xs[j] = ys[j]) ∧ Below w.heap.size w wr) (fun s _ => xs.length - (intOf s).toNat)
  case atStart => exact ⟨0, rfl, by omega, (fun j h h' k => by omega), Below.refl _ _⟩
  case round =>
    obtain ⟨k, rfl, hk, HE, hbw⟩ := hrel
    by_cases hlt : k < xs.length
    · have hlt' : (k : Int) < (xs.length : Int) := by omega
      have hk2 : k < ys.length := by have := HN.out; omega
      obtain ⟨b1, o1, hak, hb1, c0⟩ := h.at hbw k hlt
      obtain ⟨b2, o2, hak2, hb2, c1⟩ := h'.at hbw k hk2
      subst hak hak2
      obtain ⟨x, hx⟩ : ∃ x, xs[k] = x := ⟨_, rfl⟩
      obtain ⟨y, hy⟩ : ∃ y, ys[k] = y := ⟨_, rfl⟩
      have HX : Hid (xs[k] = x) := hx
      have HY : Hid (ys[k] = y) := hy
      rw [hx] at c0
      rw [hy] at c1
      clear hx hy
      by_cases he : x = y
      · subst he
        go_wp2
        go_quiet (fail)
        go_wp2
        go_roundw
        case rel =>
          refine ⟨k + 1, by go_num, by omega, fun j hj hj' hjk => ?_, below_drews hbw _⟩
          by_cases e : j = k
          · subst e; rw [HX.out, HY.out]
          · exact HE.out j hj hj' (by omega)
        case measure => first | (simp [intOf]; done) | (simp [intOf]; omega)
      · have he' : (x == y) = false := by simp [he]
        have HD : Hid (decide (xs = ys) = false) := decide_eq_false (fun e => he (by
          have q : xs[k]? = ys[k]? := by rw [e]
          rw [List.getElem?_eq_getElem hlt, List.getElem?_eq_getElem hk2, HX.out, HY.out] at q
          exact Option.some.inj q))
        clear he
        go_wp2
        go_quiet (fail)
        go_wp2
        go_ret
        exact ⟨retC HD.out.symm, below_drews hbw _⟩
    · have e : k = xs.length := by omega
      subst e
      have HD : Hid (decide (xs = ys) = true) := decide_eq_true (List.ext_getElem HN.out (fun j h1 h2 => HE.out j h1 h2 h1))
      go_wp2
      go_ret
      exact ⟨retC HD.out.symm, hbw⟩
end Go.Proofs.Ytibfclfidaofkas
