/- What impl.NewLend and impl.Retree answer. -/
import Derived.Test.YtibfclfidaofkasGrpU
import Derived.Test.YtibfclfidaofkasGrpY
import Derived.Test.YtibfclfidaofkasGrpL
namespace Go.Proofs.Ytibfclfidaofkas
open Go.ChangeShapes Go.WideShapes Go.ChangeAt Go.RowKit
set_option maxRecDepth 100000
set_option linter.unusedVariables false
set_option linter.unusedSimpArgs false

theorem OnlyP.cell {p : Nat → Prop} {w w' : World} (h : OnlyP p w w') {a : Addr} (ha : a.block < w.heap.size) (hp : ¬ p a.block) : w'.cell? a = w.cell? a := World.cell?_of_block (w := w) (h.block a.block ha hp)
theorem OnlyP.frozen {p : Nat → Prop} {w w' : World} (h : OnlyP p w w') {a : Addr} (ha : a.block < w.heap.size) (hp : ¬ p a.block) : w'.frozen? a = w.frozen? a := World.frozen?_of_block (w := w) (h.block a.block ha hp)
theorem Cells.onlyP {w w' : World} {p : Nat → Prop} (ho : OnlyP p w w') : ∀ {cs : List (Nat × Nat × Value)}, (∀ c ∈ cs, ¬ p c.1) → Cells w cs → Cells w' cs
  | [], _, _ => trivial
  | (b, o', v) :: r, hg, ⟨⟨h1, h2⟩, h⟩ => ⟨⟨Nat.lt_of_lt_of_le h1 ho.size, (ho.cell h1 (hg (b, o', v) (List.mem_cons_self ..))).trans h2⟩, Cells.onlyP ho (fun c hc => hg c (List.mem_cons_of_mem _ hc)) h⟩
/-- Work that is done: what it wrote stays, the flag's block is new. -/
theorem att_on {K : Nat} {caps : Array Value} (w : World) (hent : ∀ args w, (callFunc K args).run Try.prog w = .ok (.enter K args) w) {p : Nat → Prop} {R : World → Prop} (hp : ¬ p w.heap.size) (hR : ∀ W v, R W → R (W.setCell ⟨w.heap.size, 0, none⟩ v))
    (hk : Calls Try.prog K caps (w.alloc (.cells #[.bool false] 4)) fun e W => e = .returned (.tuple #[]) ∧ R W ∧ OnlyP p (w.alloc (.cells #[.bool false] 4)) W) :
    Calls Try.prog 64 #[.func (.func K) #[] caps] w fun e w' => e = .returned (.bool true) ∧ R w' ∧ OnlyP p w w' := by
  refine (attempt_yes w hent (R := fun W => R W ∧ OnlyP p (w.alloc (.cells #[.bool false] 4)) W) (hk.mono fun e W h => ⟨h.1, h.2, (h.2.2.cell (a := ⟨w.heap.size, 0, none⟩) (by simp) hp).trans (by go_simp), (h.2.2.frozen (a := ⟨w.heap.size, 0, none⟩) (by simp) hp).trans (by go_simp)⟩)).mono ?_
  rintro e w' ⟨rfl, W, ⟨hW, ho⟩, rfl⟩
  refine ⟨rfl, hR _ _ (hR _ _ hW), ?_⟩
  have h1 : OnlyP p w (w.alloc (.cells #[.bool false] 4)) := OnlyP.of_below (new_below _ _)
  have h2 : OnlyP p w W := (h1.trans ho).weak (fun k hk => hk.elim id id)
  refine ⟨h2.os, h2.tape, h2.output, by simpa using h2.size, fun k hk hn => ?_⟩
  rw [Below.heap_setCell _ _ _ _ (by simp only; omega), Below.heap_setCell _ _ _ _ (by simp only; omega)]
  exact h2.block k hk hn
theorem LV.set {w : World} {lo : Nat} {sT sO sP : Value} {T O P : List Q4} (h : LV w lo sT sO sP T O P) {b : Nat} (hb : b < lo) (i : Nat) (v : Value) : LV (w.setCell ⟨b, i, none⟩ v) lo sT sO sP T O P := by
  have hg := OnlyP.of (OnlyO.of_grown (grown_set w b i v))
  have hn : ∀ {k : Nat}, inL sT sO sP k → ¬ (some b = some k) := fun hk e => by have := (h.lo hk).1; have e1 := Option.some.inj e; omega
  exact h.onlyP hg (fun g hg => hn (.inl hg)) (fun g hg => hn (.inr (.inl hg))) (fun g hg => hn (.inr (.inr hg)))
/-- A Lend lies in the variable bl, its rows beyond lo. -/
def InVar (bl lo : Nat) (T O P : List Q4) (W : World) : Prop := ∃ a1 n1 c1 a2 n2 c2 a3 n3 c3, Cells W [(bl, 0, .slice a1 n1 c1), (bl, 1, .slice a2 n2 c2), (bl, 2, .slice a3 n3 c3)] ∧ LV W lo (.slice a1 n1 c1) (.slice a2 n2 c2) (.slice a3 n3 c3) T O P
theorem InVar.set {bl lo : Nat} {T O P : List Q4} {W : World} (h : InVar bl lo T O P W) {b : Nat} (hb : b < lo) (hn : b ≠ bl) (v : Value) : InVar bl lo T O P (W.setCell ⟨b, 0, none⟩ v) := by
  obtain ⟨a1, n1, c1, a2, n2, c2, a3, n3, c3, hc, hl⟩ := h
  refine ⟨a1, n1, c1, a2, n2, c2, a3, n3, c3, Cells.onlyO (OnlyO.of_grown (grown_set W b 0 v)) (fun c hc e => ?_) hc, hl.set hb _ _⟩
  have e1 : b = c.1 := Option.some.inj e
  simp only [List.mem_cons, List.not_mem_nil, or_false] at hc
  rcases hc with rfl | rfl | rfl <;> exact hn e1
/-- A Lend stored over a variable. -/
theorem var_put {W W2 : World} {bl : Nat} {a1 : Option Addr} {n1 c1 : Nat} {a2 : Option Addr} {n2 c2 : Nat} {a3 : Option Addr} {n3 c3 : Nat} {T O P : List Q4} (hl : LV W2 W.heap.size (.slice a1 n1 c1) (.slice a2 n2 c2) (.slice a3 n3 c3) T O P) (hb : Below W.heap.size W W2) (hbl : bl < W.heap.size)
    {u0 u1 u2 : Value} (h0 : W2.cell? ⟨bl, 0, none⟩ = some u0) (h1 : W2.cell? ⟨bl, 1, none⟩ = some u1) (h2 : W2.cell? ⟨bl, 2, none⟩ = some u2) :
    InVar bl W.heap.size T O P (((W2.setCell ⟨bl, 0, none⟩ (.slice a1 n1 c1)).setCell ⟨bl, 1, none⟩ (.slice a2 n2 c2)).setCell ⟨bl, 2, none⟩ (.slice a3 n3 c3)) ∧ OnlyP (fun k => k = bl) W (((W2.setCell ⟨bl, 0, none⟩ (.slice a1 n1 c1)).setCell ⟨bl, 1, none⟩ (.slice a2 n2 c2)).setCell ⟨bl, 2, none⟩ (.slice a3 n3 c3)) := by
  have hs := hb.size
  have hz : bl < W2.heap.size := by omega
  have hc := set_three (.slice a1 n1 c1) (.slice a2 n2 c2) (.slice a3 n3 c3) h0 h1 h2
  refine ⟨⟨a1, n1, c1, a2, n2, c2, a3, n3, c3, ⟨⟨by simpa using hz, hc 0 _ rfl⟩, ⟨by simpa using hz, hc 1 _ rfl⟩, ⟨by simpa using hz, hc 2 _ rfl⟩, trivial⟩, ((hl.set hbl _ _).set hbl _ _).set hbl _ _⟩, hb.os, hb.tape, hb.output, by simpa using hs, fun k hk hn => ?_⟩
  rw [Below.heap_setCell _ _ _ _ (by simp only; omega), Below.heap_setCell _ _ _ _ (by simp only; omega), Below.heap_setCell _ _ _ _ (by simp only; omega)]
  exact hb.block k hk
/-- The answer's place is stored over by what lies in a variable. -/
theorem var_out {w w4 W : World} {br bl : Nat} {a1 : Option Addr} {n1 c1 : Nat} {a2 : Option Addr} {n2 c2 : Nat} {a3 : Option Addr} {n3 c3 : Nat} {T O P : List Q4} (hl : LV W w4.heap.size (.slice a1 n1 c1) (.slice a2 n2 c2) (.slice a3 n3 c3) T O P) (h4 : Below w.heap.size w w4) (ho : OnlyP (fun k => k = bl) w4 W) (hbl : w.heap.size ≤ bl) (hbr : w.heap.size ≤ br) (hbr2 : br < w4.heap.size) :
    LV (((W.setCell ⟨br, 0, none⟩ (.slice a1 n1 c1)).setCell ⟨br, 1, none⟩ (.slice a2 n2 c2)).setCell ⟨br, 2, none⟩ (.slice a3 n3 c3)) w.heap.size (.slice a1 n1 c1) (.slice a2 n2 c2) (.slice a3 n3 c3) T O P ∧ Below w.heap.size w (((W.setCell ⟨br, 0, none⟩ (.slice a1 n1 c1)).setCell ⟨br, 1, none⟩ (.slice a2 n2 c2)).setCell ⟨br, 2, none⟩ (.slice a3 n3 c3)) := by
  have hb : Below w.heap.size w W := h4.trans (ho.below (fun k e => by omega) h4.size)
  exact ⟨(((hl.set hbr2 _ _).set hbr2 _ _).set hbr2 _ _).lower h4.size, ((hb.setCell (by simp only; omega) _).setCell (by simp only; omega) _).setCell (by simp only; omega) _⟩
section
theorem new1_yes {w : World} {bt ba bl : Nat} {aT : Option Addr} (cT : Nat) {T : List Q4} {at' : Int} {u0 u1 u2 : Value} (hn : newB_LendMath T at' = true) (hc : Cells w [(bt, 0, .slice aT T.length cT), (ba, 0, .int .i64 at'), (bl, 0, u0), (bl, 1, u1), (bl, 2, u2)]) (hz : ∀ o : Nat, w.frozen? ⟨bl, o, none⟩ = false) (hT : Quad w.heap.size w aT T) :
    Calls Try.prog 82 #[.pointer (some ⟨bt, 0, none⟩), .pointer (some ⟨ba, 0, none⟩), .pointer (some ⟨bl, 0, none⟩)] w fun e W => e = .returned (.tuple #[]) ∧ InVar bl w.heap.size T (T.map (ownFull at')) (T.map (topFull at')) W ∧ OnlyP (fun k => k = bl) w W := by
  have HC : Hid (Cells w [(bt, 0, .slice aT T.length cT), (ba, 0, .int .i64 at'), (bl, 0, u0), (bl, 1, u1), (bl, 2, u2)]) := hc
  have ⟨⟨_, k0⟩, ⟨_, k1⟩, ⟨z2, k2⟩, ⟨_, k3⟩, ⟨_, k4⟩, _⟩ := hc
  clear hc
  go_enter Try.func82, Try.ntmps82
  go_wp2_with (first | (go_at_call 83; refine (fullLend_yes cT hn hT).mono ?_; rintro e w2 ⟨a1, n1, c1, a2, n2, c2, a3, n3, c3, rfl, hl, hb2⟩; have ⟨_, _, ⟨_, j2⟩, ⟨_, j3⟩, ⟨_, j4⟩, _⟩ := Cells.next hb2 HC.out; have jf : ∀ o : Nat, w2.frozen? ⟨bl, o, none⟩ = false := fun o => (below_frozens hb2 _ _ z2).trans (hz o); have HL : Hid (LV w2 w.heap.size (.slice a1 n1 c1) (.slice a2 n2 c2) (.slice a3 n3 c3) T (T.map (ownFull at')) (T.map (topFull at'))) := hl; clear hl))
  go_end0
  exact ⟨rfl, var_put HL.out hb2 z2 j2 j3 j4⟩
theorem new1_no {w : World} {bt ba bl : Nat} {aT : Option Addr} (cT : Nat) {T : List Q4} {at' : Int} (hn : newB_LendMath T at' = false) (hc : Cells w [(bt, 0, .slice aT T.length cT), (ba, 0, .int .i64 at')]) (hT : Quad w.heap.size w aT T) :
    Calls Try.prog 82 #[.pointer (some ⟨bt, 0, none⟩), .pointer (some ⟨ba, 0, none⟩), .pointer (some ⟨bl, 0, none⟩)] w fun e W => e = gaveUp ∧ Below w.heap.size w W := by
  have ⟨⟨_, k0⟩, ⟨_, k1⟩, _⟩ := hc
  clear hc
  go_enter Try.func82, Try.ntmps82
  go_wp2_with (first | (go_at_call 83; refine (fullLend_no cT hn hT).mono ?_; rintro e w2 ⟨rfl, hb2⟩))
  exact ⟨rfl, rfl, hb2⟩
set_option maxHeartbeats 2000000 in
theorem iNewLend_any {w : World} {aT : Option Addr} (cT : Nat) {T : List Q4} (at' : Int) (hT : Quad w.heap.size w aT T) :
    Calls Try.prog 42 #[.slice aT T.length cT, .int .i64 at'] w (NewPost w (newT T at') (newO T at') (newP T at') (newB_LendMath T at')) := by
  have hmf : ∀ (fn : Fn) (first cap : Array Value) (w : World), (Instr.makeFunc fn first cap).run Try.prog w = .ok (.func fn first cap) w := fun _ _ _ _ => rfl
  have hent : ∀ args w, (callFunc 82 args).run Try.prog w = .ok (.enter 82 args) w := enters_of Try.func82 (by kernel_rfl) rfl
  have hb4 : Below w.heap.size w ((((w.alloc (.cells #[.slice aT T.length cT] 32)).alloc (.cells #[.int .i64 at'] 2)).alloc (.cells #[.slice none 0 0, .slice none 0 0, .slice none 0 0] 35)).alloc (.cells #[.slice none 0 0, .slice none 0 0, .slice none 0 0] 35)) := by go_grown
  have s4 : ((((w.alloc (.cells #[.slice aT T.length cT] 32)).alloc (.cells #[.int .i64 at'] 2)).alloc (.cells #[.slice none 0 0, .slice none 0 0, .slice none 0 0] 35)).alloc (.cells #[.slice none 0 0, .slice none 0 0, .slice none 0 0] 35)).heap.size = w.heap.size + 4 := by simp
  have c4 : Cells ((((w.alloc (.cells #[.slice aT T.length cT] 32)).alloc (.cells #[.int .i64 at'] 2)).alloc (.cells #[.slice none 0 0, .slice none 0 0, .slice none 0 0] 35)).alloc (.cells #[.slice none 0 0, .slice none 0 0, .slice none 0 0] 35)) [(w.heap.size, 0, .slice aT T.length cT), (w.heap.size + 1, 0, .int .i64 at'), (w.heap.size + 3, 0, .slice none 0 0), (w.heap.size + 3, 1, .slice none 0 0), (w.heap.size + 3, 2, .slice none 0 0), (w.heap.size + 2, 0, .slice none 0 0), (w.heap.size + 2, 1, .slice none 0 0), (w.heap.size + 2, 2, .slice none 0 0)] :=
    ⟨⟨by simp <;> omega, by go_simp⟩, ⟨by simp <;> omega, by go_simp⟩, ⟨by simp <;> omega, by go_simp⟩, ⟨by simp <;> omega, by go_simp⟩, ⟨by simp <;> omega, by go_simp⟩, ⟨by simp <;> omega, by go_simp⟩, ⟨by simp <;> omega, by go_simp⟩, ⟨by simp <;> omega, by go_simp⟩, trivial⟩
  have f3 : ∀ o : Nat, ((((w.alloc (.cells #[.slice aT T.length cT] 32)).alloc (.cells #[.int .i64 at'] 2)).alloc (.cells #[.slice none 0 0, .slice none 0 0, .slice none 0 0] 35)).alloc (.cells #[.slice none 0 0, .slice none 0 0, .slice none 0 0] 35)).frozen? ⟨w.heap.size + 3, o, none⟩ = false := fun o => by go_simp
  have f2 : ∀ o : Nat, ((((w.alloc (.cells #[.slice aT T.length cT] 32)).alloc (.cells #[.int .i64 at'] 2)).alloc (.cells #[.slice none 0 0, .slice none 0 0, .slice none 0 0] 35)).alloc (.cells #[.slice none 0 0, .slice none 0 0, .slice none 0 0] 35)).frozen? ⟨w.heap.size + 2, o, none⟩ = false := fun o => by go_simp
  have nd := new_below ((((w.alloc (.cells #[.slice aT T.length cT] 32)).alloc (.cells #[.int .i64 at'] 2)).alloc (.cells #[.slice none 0 0, .slice none 0 0, .slice none 0 0] 35)).alloc (.cells #[.slice none 0 0, .slice none 0 0, .slice none 0 0] 35)) (.cells #[.bool false] 4)
  have hb5 : Below w.heap.size w (((((w.alloc (.cells #[.slice aT T.length cT] 32)).alloc (.cells #[.int .i64 at'] 2)).alloc (.cells #[.slice none 0 0, .slice none 0 0, .slice none 0 0] 35)).alloc (.cells #[.slice none 0 0, .slice none 0 0, .slice none 0 0] 35)).alloc (.cells #[.bool false] 4)) := below_two hb4 nd
  have c5 := Cells.next nd c4
  have f35 : ∀ o : Nat, (((((w.alloc (.cells #[.slice aT T.length cT] 32)).alloc (.cells #[.int .i64 at'] 2)).alloc (.cells #[.slice none 0 0, .slice none 0 0, .slice none 0 0] 35)).alloc (.cells #[.slice none 0 0, .slice none 0 0, .slice none 0 0] 35)).alloc (.cells #[.bool false] 4)).frozen? ⟨w.heap.size + 3, o, none⟩ = false := fun o => (below_frozens nd _ _ (by rw [s4]; omega)).trans (f3 o)
  cases hn : newB_LendMath T at'
  · have e : newT T at' = [] ∧ newO T at' = [] ∧ newP T at' = [] := by unfold newT newO newP; rw [hn]; exact ⟨rfl, rfl, rfl⟩
    rw [e.1, e.2.1, e.2.2]
    have hk := att_no _ hent (new1_no (bl := w.heap.size + 3) cT hn ⟨c5.1, c5.2.1, trivial⟩ (hT.here hb5))
    have C4 : Hid (Cells ((((w.alloc (.cells #[.slice aT T.length cT] 32)).alloc (.cells #[.int .i64 at'] 2)).alloc (.cells #[.slice none 0 0, .slice none 0 0, .slice none 0 0] 35)).alloc (.cells #[.slice none 0 0, .slice none 0 0, .slice none 0 0] 35)) _) := c4
    have F2 : Hid (∀ o : Nat, ((((w.alloc (.cells #[.slice aT T.length cT] 32)).alloc (.cells #[.int .i64 at'] 2)).alloc (.cells #[.slice none 0 0, .slice none 0 0, .slice none 0 0] 35)).alloc (.cells #[.slice none 0 0, .slice none 0 0, .slice none 0 0] 35)).frozen? ⟨w.heap.size + 2, o, none⟩ = false) := f2
    clear c4 c5 hent e f3 f35 nd hb5 f2
    go_enter Try.func42, Try.ntmps42
    go_wp2_with (first | (go_at_call 64; refine hk.mono ?_; clear hk; rintro e w2 ⟨rfl, hb2⟩; have ⟨_, _, ⟨_, j0⟩, ⟨_, j1⟩, ⟨_, j2⟩, ⟨zz, i0⟩, ⟨_, i1⟩, ⟨_, i2⟩, _⟩ := Cells.next hb2 C4.out; have jf : ∀ o : Nat, w2.frozen? ⟨w.heap.size + 2, o, none⟩ = false := fun o => (below_frozens hb2 _ _ (by rw [s4]; omega)).trans (F2.out o)))
    refine bodyPost_ret (results_two rfl _ _ _ [.slice none 0 0, .slice none 0 0, .slice none 0 0] rfl (set_three (u0 := .slice none 0 0) (u1 := .slice none 0 0) (u2 := .slice none 0 0) _ _ _ i0 i1 i2) Try.underlying35 rfl (by kernel_rfl)) rfl ?_
    exact ⟨_, _, _, _, _, _, _, _, _, rfl, LV.zero _ _, (((below_two hb4 hb2).setCell (by simp only; omega) _).setCell (by simp only; omega) _).setCell (by simp only; omega) _⟩
  · have e : newT T at' = T ∧ newO T at' = T.map (ownFull at') ∧ newP T at' = T.map (topFull at') := by unfold newT newO newP; rw [hn]; exact ⟨rfl, rfl, rfl⟩
    rw [e.1, e.2.1, e.2.2]
    have hk := att_on _ hent (p := fun k => k = w.heap.size + 3) (R := InVar (w.heap.size + 3) (((((w.alloc (.cells #[.slice aT T.length cT] 32)).alloc (.cells #[.int .i64 at'] 2)).alloc (.cells #[.slice none 0 0, .slice none 0 0, .slice none 0 0] 35)).alloc (.cells #[.slice none 0 0, .slice none 0 0, .slice none 0 0] 35)).alloc (.cells #[.bool false] 4)).heap.size T (T.map (ownFull at')) (T.map (topFull at'))) (by rw [s4]; omega) (fun W v h => h.set (by simp) (by rw [s4]; omega) v) (new1_yes cT hn ⟨c5.1, c5.2.1, c5.2.2.1, c5.2.2.2.1, c5.2.2.2.2.1, trivial⟩ f35 (hT.here hb5))
    have C4 : Hid (Cells ((((w.alloc (.cells #[.slice aT T.length cT] 32)).alloc (.cells #[.int .i64 at'] 2)).alloc (.cells #[.slice none 0 0, .slice none 0 0, .slice none 0 0] 35)).alloc (.cells #[.slice none 0 0, .slice none 0 0, .slice none 0 0] 35)) _) := c4
    have F2 : Hid (∀ o : Nat, ((((w.alloc (.cells #[.slice aT T.length cT] 32)).alloc (.cells #[.int .i64 at'] 2)).alloc (.cells #[.slice none 0 0, .slice none 0 0, .slice none 0 0] 35)).alloc (.cells #[.slice none 0 0, .slice none 0 0, .slice none 0 0] 35)).frozen? ⟨w.heap.size + 2, o, none⟩ = false) := f2
    clear c4 c5 hent e f3 f35 nd hb5 f2
    go_enter Try.func42, Try.ntmps42
    go_wp2_with (first | (go_at_call 64; refine hk.mono ?_; clear hk; rintro e w2 ⟨rfl, ⟨a1, n1, c1, a2, n2, c2, a3, n3, c3, ⟨⟨_, j0⟩, ⟨_, j1⟩, ⟨_, j2⟩, _⟩, hl⟩, ho⟩; have i0 := (ho.cell (a := ⟨w.heap.size + 2, 0, none⟩) (by rw [s4]; simp only; omega) (by simp only; omega)).trans C4.out.2.2.2.2.2.1.2; have i1 := (ho.cell (a := ⟨w.heap.size + 2, 1, none⟩) (by rw [s4]; simp only; omega) (by simp only; omega)).trans C4.out.2.2.2.2.2.2.1.2; have i2 := (ho.cell (a := ⟨w.heap.size + 2, 2, none⟩) (by rw [s4]; simp only; omega) (by simp only; omega)).trans C4.out.2.2.2.2.2.2.2.1.2; have jf : ∀ o : Nat, w2.frozen? ⟨w.heap.size + 2, o, none⟩ = false := fun o => (ho.frozen (a := ⟨w.heap.size + 2, o, none⟩) (by rw [s4]; simp only; omega) (by simp only; omega)).trans (F2.out o); have HL : Hid (LV w2 _ (.slice a1 n1 c1) (.slice a2 n2 c2) (.slice a3 n3 c3) T (T.map (ownFull at')) (T.map (topFull at'))) := hl; clear hl))
    refine bodyPost_ret (results_two rfl _ _ _ [.slice a1 n1 c1, .slice a2 n2 c2, .slice a3 n3 c3] rfl (set_three (u0 := .slice none 0 0) (u1 := .slice none 0 0) (u2 := .slice none 0 0) _ _ _ i0 i1 i2) Try.underlying35 rfl (by kernel_rfl)) rfl ?_
    have hf := var_out (br := w.heap.size + 2) (HL.out.lower (lo' := ((((w.alloc (.cells #[.slice aT T.length cT] 32)).alloc (.cells #[.int .i64 at'] 2)).alloc (.cells #[.slice none 0 0, .slice none 0 0, .slice none 0 0] 35)).alloc (.cells #[.slice none 0 0, .slice none 0 0, .slice none 0 0] 35)).heap.size) (by simp)) hb4 ho (by omega) (by omega) (by rw [s4]; omega)
    exact ⟨_, _, _, _, _, _, _, _, _, rfl, hf.1, hf.2⟩
end
end Go.Proofs.Ytibfclfidaofkas
