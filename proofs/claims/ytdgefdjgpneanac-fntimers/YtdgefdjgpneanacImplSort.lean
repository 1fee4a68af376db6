/- slices.SortFunc at timers (the library's contract), slices.Clone at timers, and impl.sorted. -/
import Derived.Test.YtdgefdjgpneanacImplCmp
import Derived.Test.YtdgefdjgpneanacSpecCancel
import Derived.Test.YtdgefdjgpneanacImplClone
import Derived.Shelf.SlSortCmp.NoneTotal
import Derived.Shelf.SlGeneric
import Derived.Ground.SlsfProg
namespace Go.Proofs.Ytdgefdjgpneanac
open Go.ChangeShapes Go.WideShapes Go.ChangeAt Go.RowKit Go.Sort Go.Shelf Go.Lib
set_option linter.unusedVariables false
set_option maxRecDepth 100000

shelf_lay_g SlLaysF0.n6 Slsf 6 at Try 115 as Try.sortTim
def encT (x : Int × Int) : List Value := [.int .i64 x.1, .int .i64 x.2]
theorem encT_one (x : Int × Int) : ∀ v ∈ encT x, v.oneCell' = true := by
  intro v hv
  simp only [encT, List.mem_cons, List.not_mem_nil, or_false] at hv
  rcases hv with rfl | rfl <;> rfl
theorem arr_get (xs : List (Int × Int)) {i : Nat} (hi : i < xs.length) : xs.toArray[i]! = xs[i] := by
  rw [getElem!_pos xs.toArray i (by simpa using hi)]
  exact List.getElem_toArray _
theorem fill_holds {w : World} {g : Nat} {xs : List (Int × Int)} (f : Fill w g xs.length xs xs.length) : HoldsK encT 2 w g 0 xs.toArray := by
  intro j hj
  rw [size_flatK, List.size_toArray] at hj
  have hi : j / 2 < xs.length := by omega
  rw [get_flatK _ _ _ _ (by rw [List.size_toArray]; exact hj), arr_get xs hi, Nat.zero_add]
  obtain ⟨g0, g1⟩ := f.got (j / 2) hi hi
  refine ⟨?_, (f.any j hj).2⟩
  rcases Nat.mod_two_eq_zero_or_one j with h | h
  · rw [show j / 2 * 2 = j by omega] at g0
    rw [h, g0]
    rfl
  · rw [show j / 2 * 2 + 1 = j by omega] at g1
    rw [h, g1]
    rfl
theorem holds_fill {w : World} {g : Nat} {ys : List (Int × Int)} (h : HoldsK encT 2 w g 0 ys.toArray) : Fill w g ys.length ys ys.length where
  any := fun j hj => by
    obtain ⟨c, f⟩ := h.cell (i := j / 2) (c := j % 2) (by simp; omega) (by omega)
    rw [show 0 + j / 2 * 2 + j % 2 = j by omega] at c f
    refine ⟨?_, f⟩
    rcases Nat.mod_two_eq_zero_or_one j with k | k
    · rw [k] at c; exact ⟨_, c⟩
    · rw [k] at c; exact ⟨_, c⟩
  got := fun i hi _ => by
    have c0 := (h.cell (i := i) (c := 0) (by simpa using hi) (by omega)).1
    have c1 := (h.cell (i := i) (c := 1) (by simpa using hi) (by omega)).1
    rw [arr_get ys hi, Nat.zero_add] at c0 c1
    exact ⟨c0, c1⟩
theorem sort_only {w : World} {b n : Nat} {d : Array (Int × Int)} {os : Array Obj} : Only b w (sortWorldK encT 2 w b 0 n d os) := by
  refine ⟨rfl, rfl, rfl, size_sortWorldK_c encT 2 w b 0 n d os, fun k hk hn => ?_⟩
  unfold sortWorldK
  rw [heap_grow_old _ _ (by rw [size_putRowK]; exact hk)]
  show (w.heap.modify b _)[k]? = _
  rw [Array.getElem?_modify, if_neg (by omega)]
/-- In order by cf. -/
def InOrd (cf : Int × Int → Int × Int → Int) (ys : List (Int × Int)) : Prop := ∀ i j (hi : i < ys.length) (hj : j < ys.length), i < j → ¬ cf ys[j] ys[i] < 0
/-- What the comparison g answers. -/
def CmpIs (g : Nat) (cf : Int × Int → Int × Int → Int) : Prop := (∀ args w, (callFunc g args).run Try.prog w = .ok (.enter g args) w) ∧ ∀ p q W, Calls Try.prog g #[.agg #[.int .i64 p.1, .int .i64 p.2], .agg #[.int .i64 q.1, .int .i64 q.2]] W fun e w' => e = .returned (.int .i64 (cf p q)) ∧ Grows W w'
theorem byId_is : CmpIs 80 (fun p q => cmpI p.1 q.1) := ⟨enters_of Try.func80 (by kernel_rfl) rfl, byId_any⟩
theorem byTime_is : CmpIs 73 byT := ⟨enters_of Try.func73 (by kernel_rfl) rfl, byTime_any⟩
theorem swo_id : SWO (ltOf (fun p q : Int × Int => cmpI p.1 q.1)) where
  irrefl x := by unfold ltOf; rw [decide_eq_false_iff_not, cmp_neg]; omega
  trans x y z h1 h2 := by unfold ltOf at *; rw [decide_eq_true_eq, cmp_neg] at *; omega
  ntrans x y z h1 h2 := by unfold ltOf at *; rw [decide_eq_false_iff_not, cmp_neg] at *; omega
theorem byT_neg (p q : Int × Int) : byT p q < 0 ↔ befB p q = true := by
  unfold byT orI befB
  rw [Bool.or_eq_true, Bool.and_eq_true, decide_eq_true_eq, decide_eq_true_eq, decide_eq_true_eq]
  by_cases h : p.2 = q.2
  · rw [if_pos ((cmp_zero _ _).2 h), cmp_neg]
    constructor
    · intro k; exact .inr ⟨h, k⟩
    · rintro (k | k)
      · omega
      · exact k.2
  · rw [if_neg (fun k => h ((cmp_zero _ _).1 k)), cmp_neg]
    constructor
    · intro k; exact .inl k
    · rintro (k | k)
      · exact k
      · exact absurd k.1 h
theorem bef_iff (p q : Int × Int) : befB p q = true ↔ (p.2 < q.2 ∨ p.2 = q.2 ∧ p.1 < q.1) := by
  unfold befB
  rw [Bool.or_eq_true, Bool.and_eq_true, decide_eq_true_eq, decide_eq_true_eq, decide_eq_true_eq]
theorem swo_time : SWO (ltOf byT) where
  irrefl x := by unfold ltOf; rw [decide_eq_false_iff_not, byT_neg, bef_iff]; omega
  trans x y z h1 h2 := by unfold ltOf at *; rw [decide_eq_true_eq, byT_neg, bef_iff] at *; omega
  ntrans x y z h1 h2 := by unfold ltOf at *; rw [decide_eq_false_iff_not, byT_neg, bef_iff] at *; omega
theorem sortFunc_any {g : Nat} {cf : Int × Int → Int × Int → Int} (hO : SWO (ltOf cf)) (hc : CmpIs g cf) {w : World} {b : Nat} (cap : Nat) {xs : List (Int × Int)} (f : Fill w b xs.length xs xs.length) (hb : b < w.heap.size) (hl : xs.length ≤ 201) :
    Calls Try.prog 115 #[.slice (some ⟨b, 0, none⟩) xs.length cap, .func (.func g) #[] #[]] w fun e w' => e = .returned (.tuple #[]) ∧ ∃ ys, ys.Perm xs ∧ InOrd cf ys ∧ Fill w' b ys.length ys ys.length ∧ Only b w w' := by
  have hcmp : CmpLays Try.prog g #[] encT 2 cf b 0 xs.toArray.size w := fun m os dk _ x y => hc.2 x y _
  have hcon := AnyQ.slices_SortFunc Try.sortTim 2 Try.isAgg87 Try.sizeOf87 encT (fun _ => rfl) encT_one cf hO g #[] b 0 cap xs.toArray w hc.1 hcmp (fill_holds f) hb (by rw [List.size_toArray]; omega)
  refine hcon.mono ?_
  rintro e w' ⟨he, d', n, os, hp, hs, rfl⟩
  have hd : d' = d'.toList.toArray := by simp
  obtain ⟨hz, _, hperm⟩ := hp
  have hz' : d'.size = xs.length := hz.trans List.size_toArray
  clear hz
  rw [List.size_toArray] at hs hperm
  refine ⟨he, d'.toList, ?_, ?_, ?_, sort_only⟩
  · have e1 : d'.extract 0 xs.length = d' := by rw [← hz']; simp
    have e2 : xs.toArray.extract 0 xs.length = xs.toArray := by simp
    rw [e1, e2] at hperm
    exact hperm
  · intro i j hi hj hij
    rw [Array.length_toList] at hi hj
    have := hs i j (Nat.zero_le _) hij (by omega)
    rw [getElem!_pos d' i hi, getElem!_pos d' j hj] at this
    unfold ltOf at this
    rw [decide_eq_false_iff_not] at this
    simpa using this
  · refine holds_fill ?_
    rw [← hd]
    exact holdsK_sortWorldK_c encT 2 w b 0 xs.toArray d' n os (fill_holds f) hb (by rw [List.size_toArray]; exact hz')
theorem row_cases {w : World} {base : Nat} {v : Value} {xs : List (Int × Int)} (h : w.ownsRow base 87 2 v xs.length (flat xs)) :
    (v = .slice none 0 0 ∧ Hid (xs = [])) ∨ ∃ g cap, v = .slice (some ⟨g, 0, none⟩) xs.length cap ∧ base ≤ g ∧ g < w.heap.size ∧ Fill w g xs.length xs xs.length ∧ xs.length ≤ cap := by
  by_cases hv : v = .slice none 0 0
  · refine .inl ⟨hv, ?_⟩
    rcases h.2 with ⟨_, e⟩ | ⟨g, cap, cur, e, _⟩
    · exact List.eq_nil_of_length_eq_zero e
    · rw [hv] at e
      cases e
  · exact .inr (own_tim h hv)
/-- A list that was put in order, in memory of its own. -/
def SortPost (cf : Int × Int → Int × Int → Int) (xs : List (Int × Int)) (w : World) (e : Ending) (w' : World) : Prop := ∃ a n c ys, e = .returned (.slice a n c) ∧ n = ys.length ∧ FW w' w.heap.size (.slice a n c) ys ∧ Smp w'.heap.size w' a ys ∧ ys.Perm xs ∧ InOrd cf ys ∧ RowKit.Below w.heap.size w w'
set_option maxHeartbeats 2000000 in
theorem sorted_any {g : Nat} {cf : Int × Int → Int × Int → Int} (hO : SWO (ltOf cf)) (hc : CmpIs g cf) {w : World} {a : Option Addr} (cap : Nat) {xs : List (Int × Int)} (h : Smp w.heap.size w a xs) (hl : xs.length ≤ 201) :
    Calls Try.prog 72 #[.slice a xs.length cap, .func (.func g) #[] #[]] w (SortPost cf xs w) := by
  have hn : ∀ p cap fv W, Calls Try.prog 115 #[.slice p 0 cap, fv] W fun e w' => e = .returned (.tuple #[]) ∧ w' = W := fun p cap fv W => AnyF.slices_SortFunc_none Try.sortTim p cap fv W
  have HC : Hid (CmpIs g cf) := hc
  have HO : Hid (SWO (ltOf cf)) := hO
  clear hc hO
  go_enter Try.func72, Try.ntmps72
  go_wp2_with (first
    | (go_at_call 77; refine (cloneT_any cap h hl).mono ?_; rintro e w2 ⟨v, rfl, hown, hb2⟩; rcases row_cases hown with ⟨rfl, HX⟩ | ⟨b, c, rfl, hb0, hb1, f, hcap⟩)
    | (go_at_call 115; have hbb := hb0; refine (sortFunc_any HO.out HC.out c f hb1 hl).mono ?_; rintro e w3 ⟨rfl, ys, hp, hord, f3, hO3⟩)
    | (go_at_call 115; refine (hn _ _ _ _).mono ?_; rintro e w3 ⟨rfl, rfl⟩))
  · go_ret
    refine ⟨_, _, _, [], rfl, rfl, .inr ⟨⟨_, rfl⟩, rfl⟩, (fun i h => by cases h), by rw [HX.out], (fun i j hi => by cases hi), hb2⟩
  · go_ret
    have hz := hO3.size
    have hpl := hp.length_eq
    refine ⟨_, _, _, ys, rfl, hpl.symm, .inl ⟨b, c, by rw [hpl], hb0, by omega, f3, by omega⟩, f3.smp (by omega), hp, hord, hb2.trans (hO3.below hb0 hb2.size)⟩
end Go.Proofs.Ytdgefdjgpneanac
