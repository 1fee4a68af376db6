/- What slices.IndexFunc, slices.DeleteFunc and impl's Wheel.without answer. -/
import Derived.Test.YtdgefdjgpneanacImplClone
import Derived.Laws.OwnMore
import Derived.Shelf.Abstract
namespace Go.Proofs.Ytdgefdjgpneanac
open Go.ChangeShapes Go.WideShapes Go.ChangeAt Go.RowKit
set_option linter.unusedVariables false
set_option maxRecDepth 100000

theorem del_any {w : World} {c : Nat} {id : Int} (hc : w.cell? ⟨c, 0, none⟩ = some (.int .i64 id)) (hz : c < w.heap.size) (p q : Int) :
    Calls Try.prog 114 #[.agg #[.int .i64 p, .int .i64 q], .pointer (some ⟨c, 0, none⟩)] w fun e w' => e = .returned (.bool (p == id)) ∧ Below w.heap.size w w' := by
  have hn : w.heap.size ≠ c := by omega
  go_enter Try.func114, Try.ntmps114
  go_wp2
  go_ret
  exact ⟨rfl, by go_grown⟩
def IdxIs (id : Int) (xs : List (Int × Int)) (z : Int) : Prop := (z = -1 ∧ ∀ m (h : m < xs.length), xs[m].1 ≠ id) ∨ ∃ (k : Nat) (h : k < xs.length), z = k ∧ xs[k].1 = id ∧ ∀ m (h : m < xs.length), m < k → xs[m].1 ≠ id
def IdxPost (id : Int) (xs : List (Int × Int)) (w : World) (e : Ending) (w' : World) : Prop := ∃ z, e = .returned (.int .i64 z) ∧ IdxIs id xs z ∧ Below w.heap.size w w'
set_option maxHeartbeats 2000000 in
theorem index_any {w : World} {a : Option Addr} (cap : Nat) {xs : List (Int × Int)} {c : Nat} {id : Int} (h : Smp w.heap.size w a xs) (hc : w.cell? ⟨c, 0, none⟩ = some (.int .i64 id)) (hz : c < w.heap.size) (hl : xs.length ≤ 201) :
    Calls Try.prog 134 #[.slice a xs.length cap, .func (.func 114) #[] #[.pointer (some ⟨c, 0, none⟩)]] w (IdxPost id xs w) := by
  have eg : ∀ args w, (callFunc 114 args).run Try.prog w = .ok (.enter 114 args) w := enters_of Try.func114 (by kernel_rfl) rfl
  have hl' : (xs.length : Int) ≤ 201 := by omega
  go_enter Try.func134, Try.ntmps134
  go_wp2
  go_loopw [8] (fun i wr => ∃ k : Nat, i = .int .i64 k ∧ k ≤ xs.length ∧ (∀ m (h : m < xs.length), m < k → xs[m].1 ≠ id) ∧ Below w.heap.size w wr) (fun i _ => xs.length - (intOf i).toNat)
  case atStart => exact ⟨0, rfl, by omega, (fun m h k => by omega), Below.refl _ _⟩
  case round =>
    obtain ⟨k, rfl, hk, hall, hwr⟩ := hrel
    have HA : Hid (∀ m (h : m < xs.length), m < k → xs[m].1 ≠ id) := hall
    clear hall
    by_cases hlt : k < xs.length
    · obtain ⟨b, off, rfl, hb, c0, c1⟩ := h.at hwr k hlt
      have hlt' : (k : Int) < (xs.length : Int) := by omega
      obtain ⟨p, q, hx⟩ : ∃ p q, xs[k] = (p, q) := ⟨_, _, rfl⟩
      have HX : Hid (xs[k].1 = p) := by rw [hx]; rfl
      rw [hx] at c0 c1
      clear hx
      simp only at c0 c1
      have hd := del_any (w := wr) (id := id) (c := c) ((hwr.cell (by exact hz)).trans hc) (Nat.lt_of_lt_of_le hz hwr.size) p q
      by_cases hp : p = id
      · have hp' : (p == id) = true := by simp [hp]
        rw [hp'] at hd
        have HP : Hid (p = id) := hp
        clear hp hp'
        go_wp2_with (first | (go_at_call 114; refine hd.mono ?_; rintro e w3 ⟨rfl, hb3⟩))
        go_ret
        exact ⟨k, rfl, .inr ⟨k, hlt, rfl, HX.out.trans HP.out, HA.out⟩, below_step hwr hb3⟩
      · have hp' : (p == id) = false := by simp [hp]
        rw [hp'] at hd
        have HP : Hid (¬ p = id) := hp
        clear hp hp'
        go_wp2_with (first | (go_at_call 114; refine hd.mono ?_; rintro e w3 ⟨rfl, hb3⟩))
        go_roundw
        case rel =>
          refine ⟨k + 1, by go_num, by omega, fun m hm hk => ?_, below_step hwr hb3⟩
          by_cases e : m = k
          · subst e
            rw [HX.out]
            exact HP.out
          · exact HA.out m hm (by omega)
        case measure => first | (simp [intOf]; done) | (simp [intOf]; omega)
    · have e : k = xs.length := by omega
      subst e
      go_wp2
      go_ret
      exact ⟨_, rfl, .inl ⟨rfl, fun m hm => HA.out m hm hm⟩, hwr⟩
/-! Rows that are cut, stored into and cleared -/
theorem row_lower {w : World} {base base' : Nat} {e : TypeId} {n : Nat} {v : Value} {xs : List Value} (h : w.ownsRow base e 2 v n xs) (hb : base' ≤ base) : w.ownsRow base' e 2 v n xs := by
  refine ⟨h.1, ?_⟩
  rcases h.2 with k | ⟨g, cap, cur, e, h1, k⟩
  · exact .inl k
  · exact .inr ⟨g, cap, cur, e, Nat.le_trans hb h1, k⟩
theorem row_cut {w : World} {base : Nat} {e : TypeId} {g n cap i : Nat} {xs : List Value} (h : w.ownsRow base e 2 (.slice (some ⟨g, 0, none⟩) n cap) n xs) (hi : i ≤ n) : w.ownsRow base e 2 (.slice (some ⟨g, 0, none⟩) i cap) i (xs.take (i * 2)) := by
  rcases h.2 with ⟨h', _⟩ | ⟨g', cap', cur, h', hb, hg, hnc, hcm, hcs, htake⟩
  · cases h'
  · injection h' with e1 _ e3
    injection e1 with e1
    injection e1 with e1
    subst e1 e3
    have hl := h.1
    refine ⟨by rw [List.length_take, hl]; omega, .inr ⟨g, cap, cur, rfl, hb, hg, by omega, hcm, hcs, ?_⟩⟩
    rw [← htake, List.take_take]
    congr 1
    omega
theorem row_past {base : Nat} {e : TypeId} {g n cap : Nat} {xs : List Value} : ∀ (vs : List Value) (s : Nat) (w : World), w.ownsRow base e 2 (.slice (some ⟨g, 0, none⟩) n cap) n xs → n * 2 ≤ s → (w.setCells g s vs).ownsRow base e 2 (.slice (some ⟨g, 0, none⟩) n cap) n xs
  | [], s, w, h, _ => h
  | v :: r, s, w, h, hs => by
    have k := (h.stored s v).1
    rw [List.set_eq_of_length_le (by rw [h.1]; exact hs)] at k
    exact row_past r (s + 1) _ k (by omega)
theorem below_cells_set {B g : Nat} (hg : B ≤ g) : ∀ (vs : List Value) (s : Nat) (w x : World), Below B w x → Below B w (x.setCells g s vs)
  | [], s, w, x, h => h
  | v :: r, s, w, x, h => below_cells_set hg r (s + 1) w _ (h.setCell (by exact hg) v)
theorem flat_set (zs : List (Int × Int)) : ∀ i (p q : Int), ((flat zs).set (i * 2) (.int .i64 p)).set (i * 2 + 1) (.int .i64 q) = flat (zs.set i (p, q)) := by
  induction zs with
  | nil => intro i p q; rfl
  | cons z zs ih =>
    intro i p q
    cases i with
    | zero => rfl
    | succ i =>
      show ((Value.int .i64 z.1 :: Value.int .i64 z.2 :: flat zs).set ((i + 1) * 2) _).set ((i + 1) * 2 + 1) _ = Value.int .i64 z.1 :: Value.int .i64 z.2 :: flat (zs.set i (p, q))
      rw [show (i + 1) * 2 = i * 2 + 1 + 1 by omega, show i * 2 + 1 + 1 + 1 = i * 2 + 1 + 1 + 1 from rfl]
      simp only [List.set_cons_succ]
      rw [ih]
theorem flat_take (zs : List (Int × Int)) : ∀ i, (flat zs).take (i * 2) = flat (zs.take i) := by
  induction zs with
  | nil => intro i; simp [flat]
  | cons z zs ih =>
    intro i
    cases i with
    | zero => rfl
    | succ i =>
      show (Value.int .i64 z.1 :: Value.int .i64 z.2 :: flat zs).take ((i + 1) * 2) = Value.int .i64 z.1 :: Value.int .i64 z.2 :: flat (zs.take i)
      rw [show (i + 1) * 2 = i * 2 + 1 + 1 by omega]
      simp only [List.take_succ_cons]
      rw [ih]
theorem clear_tims {w : World} {b o n c : Nat} (ty : TypeId) (hn : 0 < n) (hc : ∀ j, j < n * 2 → (w.cell? ⟨b, o + j, none⟩).isSome = true) (hf : ∀ j, j < n * 2 → w.frozen? ⟨b, o + j, none⟩ = false) :
    (Builtin.clear_ #[34] ty #[.slice (some ⟨b, o, none⟩) n c]).run Try.prog w = .ok (.tuple #[]) (w.setCells b o (List.replicate (n * 2) (.int .i64 0))) := by
  have hzc : (Builtin.zeroCells (Value.agg #[.int .i64 0, .int .i64 0]).cells n).toList = List.replicate (n * 2) (.int .i64 0) := by
    show (Builtin.zeroCells #[.int .i64 0, .int .i64 0] n).toList = _
    simp only [Builtin.zeroCells]
    apply List.ext_getElem
    · simp
    · intro i h1 h2
      have : i % 2 = 0 ∨ i % 2 = 1 := by omega
      rcases this with h | h <;> simp [h]
  have hst := run_storeCells_cells (P := Try.prog) b o (List.replicate (n * 2) (Value.int .i64 0)) 0 w (by simpa using hc) (by simpa using hf) (by intro v hv'; rw [List.eq_of_mem_replicate hv']; rfl)
  simp only [Nat.add_zero] at hst
  obtain ⟨m, rfl⟩ : ∃ m, n = m + 1 := ⟨n - 1, by omega⟩
  have hv : ∀ w, (zeroValue 87).run Try.prog w = .ok (.agg #[.int .i64 0, .int .i64 0]) w := Try.zeroValue87
  simp [Builtin.clear_, run_underlying Try.underlying34, hv, hzc, hst]
/-- How far a strike has come. -/
structure DelSt (id : Int) (xs zs : List (Int × Int)) (i j : Nat) : Prop where
  len : zs.length = xs.length
  lo : i < j
  hi : j ≤ xs.length
  got : zs.take i = withTo id xs j
  rest : ∀ m (h : m < xs.length) (h' : m < zs.length), j ≤ m → zs[m] = xs[m]
theorem with_first {id : Int} {xs : List (Int × Int)} {k : Nat} (hk : k ≤ xs.length) (h : ∀ m (h : m < xs.length), m < k → xs[m].1 ≠ id) : withTo id xs k = xs.take k := by
  unfold withTo
  rw [List.filter_eq_self]
  intro x hx
  obtain ⟨m, hm, e⟩ := List.mem_iff_getElem.1 hx
  rw [List.length_take] at hm
  have := h m (by omega) (by omega)
  rw [List.getElem_take] at e
  subst e
  simp [this]
theorem DelSt.start {id : Int} {xs : List (Int × Int)} {k : Nat} (hk : k < xs.length) (he : xs[k].1 = id) (h : ∀ m (h : m < xs.length), m < k → xs[m].1 ≠ id) : DelSt id xs xs k (k + 1) :=
  ⟨rfl, by omega, by omega, by rw [with_no hk he, with_first (by omega) h], fun m _ _ _ => rfl⟩
theorem DelSt.keep {id : Int} {xs zs : List (Int × Int)} {i j : Nat} (s : DelSt id xs zs i j) (hj : j < xs.length) (hn : ¬ xs[j].1 = id) : DelSt id xs (zs.set i xs[j]) (i + 1) (j + 1) := by
  have hl := s.len
  have hlo := s.lo
  refine ⟨by rw [List.length_set]; exact s.len, by omega, by omega, ?_, fun m h h' hm => ?_⟩
  · rw [with_yes hj hn, ← s.got, List.take_succ_eq_append_getElem (by rw [List.length_set]; omega), List.getElem_set_self, List.take_set_of_le (Nat.le_refl _)]
  · rw [List.getElem_set_ne (by omega)]
    exact s.rest m h (by omega) (by omega)
theorem DelSt.skip {id : Int} {xs zs : List (Int × Int)} {i j : Nat} (s : DelSt id xs zs i j) (hj : j < xs.length) (hn : xs[j].1 = id) : DelSt id xs zs i (j + 1) :=
  ⟨s.len, by have := s.lo; omega, by omega, by rw [with_no hj hn]; exact s.got, fun m h h' hm => s.rest m h h' (by omega)⟩
theorem idx_cases {id : Int} {xs : List (Int × Int)} {z : Int} (h : IdxIs id xs z) : (z = -1 ∧ Hid (withoutOf id xs = xs)) ∨ ∃ k : Nat, z = k ∧ ((k : Int) == -1) = false ∧ k < xs.length ∧ Hid (DelSt id xs xs k (k + 1)) := by
  rcases h with ⟨e, h⟩ | ⟨k, hk, e, he, h⟩
  · refine .inl ⟨e, ?_⟩
    show withoutOf id xs = xs
    rw [← with_all, with_first (Nat.le_refl _) (fun m hm _ => h m hm), List.take_length]
  · exact .inr ⟨k, e, beq_eq_false_iff_ne.2 (by omega), hk, DelSt.start hk he h⟩
theorem DelSt.count {id : Int} {xs zs : List (Int × Int)} {i : Nat} (s : DelSt id xs zs i xs.length) : (withoutOf id xs).length = i ∧ zs.take i = withoutOf id xs := by
  have e := s.got
  rw [with_all] at e
  refine ⟨?_, e⟩
  rw [← e, List.length_take, s.len]
  have := s.lo
  omega
theorem row_cell {w : World} {base : Nat} {e : TypeId} {g n cap : Nat} {zs : List (Int × Int)} (h : w.ownsRow base e 2 (.slice (some ⟨g, 0, none⟩) n cap) n (flat zs)) (hz : zs.length = n) {i : Nat} (hi : i < n) :
    ∃ p q, zs[i] = (p, q) ∧ w.cell? ⟨g, i * 2, none⟩ = some (.int .i64 p) ∧ w.cell? ⟨g, i * 2 + 1, none⟩ = some (.int .i64 q) := by
  obtain ⟨h0, h1⟩ := flat_get zs i (by omega)
  exact ⟨_, _, rfl, (h.cellAt _ (by omega)).trans h0, (h.cellAt _ (by omega)).trans h1⟩
theorem row_two {w : World} {base : Nat} {e : TypeId} {g n cap : Nat} {zs : List (Int × Int)} (h : w.ownsRow base e 2 (.slice (some ⟨g, 0, none⟩) n cap) n (flat zs)) (i : Nat) (p q : Int) :
    ((w.setCell ⟨g, i * 2, none⟩ (.int .i64 p)).setCell ⟨g, i * 2 + 1, none⟩ (.int .i64 q)).ownsRow base e 2 (.slice (some ⟨g, 0, none⟩) n cap) n (flat (zs.set i (p, q))) := by
  rw [← flat_set]
  exact ((h.stored (i * 2) _).1.stored (i * 2 + 1) _).1
/-- A row of the call's own. -/
def DelPost (base : Nat) (w : World) (N : List (Int × Int)) (e : Ending) (w' : World) : Prop := ∃ v, e = .returned v ∧ w'.ownsRow base 87 2 v N.length (flat N) ∧ Below base w w'
theorem delete_none {w : World} {base c : Nat} {id : Int} (hc : w.cell? ⟨c, 0, none⟩ = some (.int .i64 id)) (hz : c < w.heap.size) (hB : base ≤ w.heap.size) :
    Calls Try.prog 113 #[.slice none 0 0, .func (.func 114) #[] #[.pointer (some ⟨c, 0, none⟩)]] w (DelPost base w []) := by
  go_enter Try.func113, Try.ntmps113
  go_wp2_with (first | (go_at_call 134; refine (index_any (xs := []) 0 (fw_nil _ _) hc hz (by simp)).mono ?_; rintro e w3 ⟨z, rfl, hi, hb3⟩; obtain rfl : z = -1 := (by rcases hi with ⟨e, _⟩ | ⟨k, hk, _⟩; exact e; cases hk)))
  go_ret
  exact ⟨_, rfl, ⟨rfl, .inl ⟨rfl, rfl⟩⟩, hb3.mono hB⟩
set_option maxHeartbeats 4000000 in
theorem delete_some {w : World} {base c g cap : Nat} {id : Int} {xs : List (Int × Int)} (hown : w.ownsRow base 87 2 (.slice (some ⟨g, 0, none⟩) xs.length cap) xs.length (flat xs)) (hl : xs.length ≤ 201) (hcap : xs.length ≤ cap) (hc : w.cell? ⟨c, 0, none⟩ = some (.int .i64 id)) (hcb : c < base) (hB : base ≤ w.heap.size) :
    Calls Try.prog 113 #[.slice (some ⟨g, 0, none⟩) xs.length cap, .func (.func 114) #[] #[.pointer (some ⟨c, 0, none⟩)]] w (DelPost base w (withoutOf id xs)) := by
  have eg : ∀ args w, (callFunc 114 args).run Try.prog w = .ok (.enter 114 args) w := enters_of Try.func114 (by kernel_rfl) rfl
  obtain ⟨hg0, hg1⟩ := hown.lt g rfl
  have hsm : Smp w.heap.size w (some ⟨g, 0, none⟩) xs := by
    obtain ⟨g', c', e, _, h2, f, _⟩ := own_tim hown (by intro e; cases e)
    cases e
    exact f.smp h2
  have hz : c < w.heap.size := by omega
  have HB : Hid (base ≤ g ∧ c < base) := ⟨hg0, hcb⟩
  have hl' : (xs.length : Int) ≤ 201 := by omega
  have hcap' : (xs.length : Int) ≤ cap := by omega
  obtain ⟨n, hn⟩ : ∃ n, xs.length = n := ⟨_, rfl⟩
  have HN : Hid (xs.length = n) := hn
  have hi := index_any cap hsm hc hz hl
  rw [hn] at hown hi hl' hcap'
  rw [hn]
  clear hn hl hsm
  go_enter Try.func113, Try.ntmps113
  go_wp2_with (first | (go_at_call 134; refine hi.mono ?_; clear hi; rintro e w3 ⟨z, rfl, hi, hb3⟩; rcases idx_cases hi with ⟨rfl, HS⟩ | ⟨k, rfl, hk1, hk, HS⟩; clear hi))
  · go_ret
    exact ⟨_, rfl, by rw [HS.out, HN.out]; exact row_next hown hb3, hb3.mono hB⟩
  · go_loopw [5, 6, 7] (fun s5 s6 s7 wr => ∃ i j zs, s5 = .int .i64 (i : Nat) ∧ s6 = .int .i64 (j : Nat) ∧ Hid (DelSt id xs zs i j) ∧ wr.ownsRow base 87 2 (.slice (some ⟨g, 0, none⟩) n cap) n (flat zs) ∧ wr.cell? ⟨c, 0, none⟩ = some (.int .i64 id) ∧ Below base w wr) (fun _ s6 _ _ => n - (intOf s6).toNat)
    case atStart => exact ⟨k, k + 1, xs, rfl, by have hh := HN.out; rw [IntWalk.wrap64_in _ (by omega)]; rfl, HS, row_next hown hb3, (hb3.cell (by exact hz)).trans hc, hb3.mono hB⟩
    case round =>
      clear HS hown hc hk hk1 hb3
      obtain ⟨i, j, zs, rfl, rfl, HD, hown, hc, hwr⟩ := hrel
      have hzs : zs.length = n := HD.out.len.trans HN.out
      have hij := HD.out.lo
      have hjn : j ≤ n := HN.out ▸ HD.out.hi
      have hgz := (hown.lt g rfl).2
      have hcz : c < wr.heap.size := Nat.lt_of_lt_of_le hz hwr.size
      have hgw : wr.heap.size ≠ g := by omega
      have hcw : wr.heap.size ≠ c := by omega
      have hg3 : g ≠ wr.heap.size := by omega
      have hcg : g ≠ c := by have := HB.out; omega
      by_cases hlt : j < n
      · have hlt' : (j : Int) < n := by omega
        have hi' : (i : Int) < n := by omega
        have hjx : j < xs.length := by rw [HN.out]; exact hlt
        obtain ⟨p, q, hpq, c0, c1⟩ := row_cell hown hzs hlt
        have HX : Hid (xs[j] = (p, q)) := by rw [← hpq]; exact (HD.out.rest j hjx (by omega) (Nat.le_refl _)).symm
        clear hpq
        have hd : ∀ x, Below wr.heap.size wr x → Calls Try.prog 114 #[.agg #[.int .i64 p, .int .i64 q], .pointer (some ⟨c, 0, none⟩)] x fun e w' => e = .returned (.bool (p == id)) ∧ Below x.heap.size x w' := fun x hx => del_any ((hx.cell (by exact hcz)).trans hc) (Nat.lt_of_lt_of_le hcz hx.size) p q
        by_cases hp : p = id
        · have hp' : (p == id) = true := by simp [hp]
          rw [hp'] at hd
          have HP : Hid (p = id) := hp
          clear hp hp'
          go_wp2_with (first | (go_at_call 114; refine (hd _ (by go_grown)).mono ?_; rintro e w4 ⟨rfl, hb4⟩))
          go_roundw
          case rel =>
            have hb5 : Below wr.heap.size wr w4 := below_step (by go_grown) hb4
            exact ⟨i, j + 1, zs, rfl, by go_num, HD.out.skip hjx (by rw [HX.out]; exact HP.out), row_next hown hb5, (hb5.cell (by exact hcz)).trans hc, hwr.trans (hb5.mono (Nat.le_trans hB hwr.size))⟩
          case measure => first | (simp [intOf]; done) | (simp [intOf]; omega)
        · have hp' : (p == id) = false := by simp [hp]
          rw [hp'] at hd
          have HP : Hid (¬ p = id) := hp
          clear hp hp'
          go_wp2_with (first | (go_at_call 114; refine (hd _ (by go_grown)).mono ?_; rintro e w4 ⟨rfl, hb4⟩; have kc := below_cells hb4; have b0 : w4.cell? ⟨wr.heap.size, 0, none⟩ = some (.int .i64 p) := (kc _ _ (by simp)).trans (by go_simp); have b1 : w4.cell? ⟨wr.heap.size, 1, none⟩ = some (.int .i64 q) := (kc _ _ (by simp)).trans (by go_simp); have hb5 : Below wr.heap.size wr w4 := below_step (by go_grown) hb4; have row := row_next hown hb5; obtain ⟨p', q', _, d0, d1⟩ := row_cell row hzs (Nat.lt_trans hij hlt); have f0 := row.frozenAt (i * 2); have f1 := row.frozenAt (i * 2 + 1); clear kc hb4))
          go_roundw
          case rel =>
            refine ⟨i + 1, j + 1, zs.set i (p, q), by go_num, by go_num, ?_, row_two row i p q, ?_, ?_⟩
            · have k := HD.out.keep hjx (by rw [HX.out]; exact HP.out)
              rw [HX.out] at k
              exact k
            · exact (set_far (by exact hcg)).trans ((set_far (by exact hcg)).trans ((hb5.cell (by exact hcz)).trans hc))
            · exact ((hwr.trans (hb5.mono (Nat.le_trans hB hwr.size))).setCell (by exact HB.out.1) _).setCell (by exact HB.out.1) _
          case measure => first | (simp [intOf]; done) | (simp [intOf]; omega)
      · have e : j = n := by omega
        have HJ : Hid (DelSt id xs zs i xs.length) := by rw [HN.out, ← e]; exact HD
        have hin : i < n := by omega
        clear HD
        subst e
        have hi1 : (i : Int) ≤ j := by omega
        have hi2 : (i : Int) ≤ cap := by omega
        have hcl : ∀ ty, (Builtin.clear_ #[34] ty #[.slice (some ⟨g, i * 2, none⟩) (j - i) (cap - i)]).run Try.prog wr = .ok (.tuple #[]) (wr.setCells g (i * 2) (List.replicate ((j - i) * 2) (.int .i64 0))) :=
          fun ty => clear_tims ty (by omega) (fun m hm => by rw [hown.cellAt _ (by omega), List.getElem?_eq_getElem (by rw [flat_length]; omega)]; rfl) (fun m hm => hown.frozenAt _)
        go_wp2
        go_ret
        have ⟨e1, e2⟩ := HJ.out.count
        refine ⟨_, rfl, ?_, below_cells_set HB.out.1 _ _ _ _ hwr⟩
        rw [e1]
        refine row_past _ _ _ ?_ (Nat.le_refl _)
        have k := row_cut hown (i := i) (by omega)
        rw [flat_take, e2] at k
        exact k
theorem delete_any {w : World} {base c : Nat} {v : Value} {id : Int} {xs : List (Int × Int)} (hown : w.ownsRow base 87 2 v xs.length (flat xs)) (hl : xs.length ≤ 201) (hc : w.cell? ⟨c, 0, none⟩ = some (.int .i64 id)) (hcb : c < base) (hB : base ≤ w.heap.size) :
    Calls Try.prog 113 #[v, .func (.func 114) #[] #[.pointer (some ⟨c, 0, none⟩)]] w (DelPost base w (withoutOf id xs)) := by
  rcases hown.2 with ⟨rfl, e⟩ | ⟨g, cap, cur, rfl, _, _, hcap, _⟩
  · obtain rfl : xs = [] := List.eq_nil_of_length_eq_zero e
    exact delete_none hc (by omega) hB
  · exact delete_some hown hl hcap hc hcb hB
set_option maxHeartbeats 2000000 in
theorem without_any {w : World} (now : Int) {a : Option Addr} (cap : Nat) {xs : List (Int × Int)} (id : Int) (h : Smp w.heap.size w a xs) (hl : xs.length ≤ 201) :
    Calls Try.prog 71 #[.agg #[.int .i64 now, .slice a xs.length cap], .int .i64 id] w (RowPost w (withoutOf id xs)) := by
  go_enter Try.func71, Try.ntmps71
  go_wp2_with (first
    | (go_at_call 77; refine (cloneT_any cap (h.here (by go_grown)) hl).mono ?_; rintro e w2 ⟨v, rfl, hown, hb2⟩; have kc := below_cells hb2; have k0 : w2.cell? ⟨w.heap.size + 1, 0, none⟩ = some (.int .i64 id) := (kc _ _ (by simp)).trans (by go_simp); have hbw := startw hb2; have zw := sizew hb2)
    | (go_at_call 113; refine (delete_any hown hl k0 (by simp) hb2.size).mono ?_; rintro e w3 ⟨v3, rfl, hown3, hb3⟩))
  go_ret
  exact ⟨v3, rfl, row_lower hown3 (by simp; omega), hbw.trans (hb3.mono (by simp; omega))⟩
end Go.Proofs.Ytdgefdjgpneanac
