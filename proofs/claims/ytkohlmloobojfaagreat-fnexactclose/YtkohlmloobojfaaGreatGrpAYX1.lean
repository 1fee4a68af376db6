/- Lemmas on the way, of several texts: ImplWith, ImplCls, ClsBoth. -/
import Derived.Test.YtkohlmloobojfaaGreatGrpAY
import Derived.Test.YtkohlmloobojfaaGreatGrpAS
import Derived.Test.YtkohlmloobojfaaGreatGrpAR
import Derived.Test.YtkohlmloobojfaaGreatGrpAOX1
import Derived.Test.YtkohlmloobojfaaGreatGrpAB
import Derived.Test.YtkohlmloobojfaaGreatGrpAU
namespace Go.Proofs.YtkohlmloobojfaaGreat
open Go.ChangeShapes Go.WideShapes Go.ChangeAt Go.RowKit
set_option maxRecDepth 100000
set_option linter.unusedVariables false
set_option linter.unusedSimpArgs false
section
variable {P : Program}
theorem results_threeE {fn : Func} {p u1 u2 : Tmp} {ty : TypeId} (h : fn.results = #[.cell p ty, .tmp u1, .tmp u2]) (tmps : Array Value) (w : World) (g : Nat) (cs : List Value) {d : TypeDesc}
    (hp : tmps.getD p undef = .pointer (some ⟨g, 0, none⟩)) (hc : ∀ j v, cs[j]? = some v → w.cell? ⟨g, j, none⟩ = some v)
    (hu : P.underlying ty = some d) (hd : (match d with | .struct _ | .array _ _ => true | _ => false) = true) (hi : (P.info? ty).map (·.size) = some cs.length) :
    (results fn tmps).run P w = .ok (.tuple #[.agg cs.toArray, tmps.getD u1 undef, tmps.getD u2 undef]) w := by
  have hp' : tmps[p]?.getD undef = .pointer (some ⟨g, 0, none⟩) := by simpa using hp
  have hl := loadVar_cells (P := P) w g 0 ty cs (fun j v hv => by rw [Nat.zero_add]; exact hc j v hv) hu hd hi
  simp [results, h, hp', asAddr, hl, Sem.run_bind, Result.andThen]
end
/-- An Engine of the call's own, and two things beside it. -/
def EgPost3 (w : World) (now nx : Int) (T O P : List Q4) (L : List F8) (K : List Kn) (x y : Value) (e : Ending) (w' : World) : Prop := ∃ aT cT aO cO aP cP aL cL aK cK, e = .returned (.tuple #[engV now aT T.length cT aO O.length cO aP P.length cP aL L.length cL aK K.length cK nx, x, y]) ∧ Eng w' w.heap.size w'.heap.size (.slice aT T.length cT) (.slice aO O.length cO) (.slice aP P.length cP) (.slice aL L.length cL) (.slice aK K.length cK) T O P L K ∧ Below w.heap.size w w'
/-- An Engine that was copied, and two numbers beside it. -/
def CpEng3 (w : World) (now nx : Int) (T O P : List Q4) (L : List F8) (K : List Kn) (x y : Value) (e : Ending) (w' : World) : Prop := ∃ aT dT aO dO aP dP aL dL aK dK GK lh ph, e = .returned (.tuple #[engV now aT T.length dT aO O.length dO aP P.length dP aL L.length dL aK K.length dK nx, x, y]) ∧ LV w' w.heap.size (.slice aT T.length dT) (.slice aO O.length dO) (.slice aP P.length dP) T O P ∧ (∀ b, inL (.slice aT T.length dT) (.slice aO O.length dO) (.slice aP P.length dP) b → b < lh) ∧ TV w' lh ph (.slice aL L.length dL) L ∧ CpK w' ph (.slice aK K.length dK) GK K ∧ (w.heap.size ≤ lh ∧ lh ≤ ph ∧ ph ≤ w'.heap.size) ∧ Below w.heap.size w w'
theorem fK_not {K : List Kn} {id : Int} (h : fK K id = -1) : ∀ i (hi : i < K.length), K[i].id ≠ id := fun i hi e => by
  have : K.findIdx (fun c => c.id == id) < K.length := List.findIdx_lt_length.2 ⟨K[i], List.getElem_mem hi, by simp [e]⟩
  unfold fK at h
  rw [if_pos this] at h
  omega
theorem eg_rise {now nx : Int} {T O P : List Q4} {L : List F8} {K : List Kn} (h : EgOk now nx T O P L K) : ∀ i j (h1 : i < K.length) (h2 : j < K.length), i < j → K[i].id < K[j].id := by
  intro i j h1 h2 hij
  induction j with
  | zero => omega
  | succ j ih =>
    have q := h.rise j (by omega) h2
    by_cases e : i = j
    · subst e; exact q
    · exact Int.lt_trans (ih (by omega) (by omega)) q
theorem at_noE {K : List Kn} {id : Int} {w w' : World} {e : Ending} (hf : fK K id = -1) (h : AtPost K id w e w') : (∃ p : Nat, e = .returned (.tuple #[.int .i64 p, .bool false])) ∧ Below w.heap.size w w' := by
  obtain ⟨p, f, e, hp, h1, h2, h3, hb⟩ := h
  cases f with
  | false => exact ⟨⟨p, e⟩, hb⟩
  | true =>
    obtain ⟨q, e'⟩ := h3.1 rfl
    exact absurd e' (fK_not hf p q)
theorem at_yesE {K : List Kn} {id : Int} {i : Nat} {w w' : World} {e : Ending} (hr : ∀ i j (h1 : i < K.length) (h2 : j < K.length), i < j → K[i].id < K[j].id) (hi : i < K.length) (hd : K[i].id = id) (h : AtPost K id w e w') : e = .returned (.tuple #[.int .i64 i, .bool true]) ∧ Below w.heap.size w w' := by
  obtain ⟨p, f, e, hp, h1, h2, h3, hb⟩ := h
  have hpi : p = i := by
    rcases Nat.lt_trichotomy p i with q | q | q
    · have a := hr p i (by omega) hi q
      have b := h2 p (by omega) (Nat.le_refl _)
      omega
    · exact q
    · have a := h1 i hi q
      omega
  subst hpi
  have : f = true := h3.2 ⟨hi, hd⟩
  subst this
  exact ⟨e, hb⟩
/-- A connection's Id is found where it is. -/
theorem fK_id {K : List Kn} {id : Int} {i : Nat} (hi : i < K.length) (hf : fK K id = (i : Int)) : K[i].id = id := by
  obtain ⟨j, hj, e, e2⟩ := fK_some (K := K) (id := id) (by rw [hf]; omega)
  have : j = i := by rw [hf] at e; omega
  subst this
  exact e2
set_option maxHeartbeats 8000000 in
theorem copiedWith_bad {w : World} (now nx : Int) {aT aO aP aL aK : Option Addr} (cT cO cP cL cK : Nat) {T O P : List Q4} {L : List F8} {K : List Kn} (id : Int) (hT : Quad w.heap.size w aT T) (hO : Quad w.heap.size w aO O) (hP : Quad w.heap.size w aP P) (hL : Fls w.heap.size w aL L) (hK : Kls w.heap.size w aK K) (mL : L.length ≤ 1048576) (sL : ∀ f ∈ L, f.2.2.length ≤ 1048576) (mK : K.length ≤ 1048576) (sK : ∀ c ∈ K, c.xs.length ≤ 1048576) (h1 : engB now nx T O P L K = false) : Calls Tryz.prog 59 #[engV now aT T.length cT aO O.length cO aP P.length cP aL L.length cL aK K.length cK nx, .int .i64 id] w (EgPost3 w 0 0 [] [] [] [] [] (.int .i64 (-1)) (.int .i64 1)) := by
  have sKm : ∀ c ∈ K, c.xs.length ≤ maxLen := fun c hc => Nat.le_trans (sK c hc) (by unfold maxLen; omega)
  obtain ⟨v, hv, nb, L0, L1⟩ := pre2 w 38 [.int .i64 now, .slice aT T.length cT, .slice aO O.length cO, .slice aP P.length cP, .slice aL L.length cL, .slice aK K.length cK, .int .i64 nx] [.int .i64 0, .slice none 0 0, .slice none 0 0, .slice none 0 0, .slice none 0 0, .slice none 0 0, .int .i64 0]
  have hw1 := L1.lt
  go_enter Tryz.func59, Tryz.ntmps59
  go_upto_region 1 with (fail)
  rw [← hv]
  clear hv
  obtain ⟨q0, q1, q2, q3, q4, q5, q6⟩ := Lay.c7 (b := w.heap.size) L0
  go_wp2_with (first | (go_at_call 35; refine (implEngineOk_is cT cO cP cL cK h1 (hT.here nb) (hO.here nb) (hP.here nb) (hL.here nb) (hK.here nb) mL sL mK sKm).mono ?_; rintro e v2 ⟨rfl, hb2⟩; have b2 := below_two nb hb2; have M0 := L0.next hb2; have M1 := L1.next hb2; clear q0 q1 q2 q3 q4 q5 q6; obtain ⟨q0, q1, q2, q3, q4, q5, q6⟩ := Lay.c7 (b := w.heap.size) M0; have m1f := M1.free; obtain ⟨z0, z1, z2, z3, z4, z5, z6⟩ := Lay.c7 (b := w.heap.size + 1) M1))
  obtain ⟨u, hu', ou, U⟩ := st7 (b := w.heap.size + 1) M1 (.int .i64 0) (.slice none 0 0) (.slice none 0 0) (.slice none 0 0) (.slice none 0 0) (.slice none 0 0) (.int .i64 0)
  rw [hu']
  clear hu'
  have zu := ou.size
  have zb := b2.size
  have hl1 := M1.lt
  refine bodyPost_ret (results_threeE rfl _ _ _ [.int .i64 0, .slice none 0 0, .slice none 0 0, .slice none 0 0, .slice none 0 0, .slice none 0 0, .int .i64 0] rfl U.cell Tryz.underlying38 rfl (by kernel_rfl)) rfl ?_
  exact ⟨_, _, _, _, _, _, _, _, _, _, rfl, eng_zero (by omega) (Nat.le_refl _), b2.trans (ou.below (by omega) b2.size)⟩
set_option maxHeartbeats 8000000 in
theorem copiedWith_id {w : World} (now nx : Int) {aT aO aP aL aK : Option Addr} (cT cO cP cL cK : Nat) {T O P : List Q4} {L : List F8} {K : List Kn} (id : Int) (hT : Quad w.heap.size w aT T) (hO : Quad w.heap.size w aO O) (hP : Quad w.heap.size w aP P) (hL : Fls w.heap.size w aL L) (hK : Kls w.heap.size w aK K) (mL : L.length ≤ 1048576) (sL : ∀ f ∈ L, f.2.2.length ≤ 1048576) (mK : K.length ≤ 1048576) (sK : ∀ c ∈ K, c.xs.length ≤ 1048576) (h1 : engB now nx T O P L K = true) (hf : fK K id = -1) : Calls Tryz.prog 59 #[engV now aT T.length cT aO O.length cO aP P.length cP aL L.length cL aK K.length cK nx, .int .i64 id] w (EgPost3 w now nx T O P L K (.int .i64 (-1)) (.int .i64 2)) := by
  have sKm : ∀ c ∈ K, c.xs.length ≤ maxLen := fun c hc => Nat.le_trans (sK c hc) (by unfold maxLen; omega)
  obtain ⟨nT, nO, nP⟩ := eg_lens (eg_yes h1)
  have l0 := (eg_yes h1).l0
  have k40 := (eg_yes h1).k1
  have HRI : Hid (∀ i j (h1 : i < K.length) (h2 : j < K.length), i < j → K[i].id < K[j].id) := eg_rise (eg_yes h1)
  obtain ⟨v, hv, nb, L0, L1⟩ := pre2 w 38 [.int .i64 now, .slice aT T.length cT, .slice aO O.length cO, .slice aP P.length cP, .slice aL L.length cL, .slice aK K.length cK, .int .i64 nx] [.int .i64 0, .slice none 0 0, .slice none 0 0, .slice none 0 0, .slice none 0 0, .slice none 0 0, .int .i64 0]
  have hw1 := L1.lt
  go_enter Tryz.func59, Tryz.ntmps59
  go_upto_region 1 with (fail)
  rw [← hv]
  clear hv
  obtain ⟨q0, q1, q2, q3, q4, q5, q6⟩ := Lay.c7 (b := w.heap.size) L0
  go_upto_region 4 with (first | (go_at_call 35; refine (implEngineOk_is cT cO cP cL cK h1 (hT.here nb) (hO.here nb) (hP.here nb) (hL.here nb) (hK.here nb) mL sL mK sKm).mono ?_; rintro e v2 ⟨rfl, hb2⟩; have b2 := below_two nb hb2; have M0 := L0.next hb2; have M1 := L1.next hb2; clear q0 q1 q2 q3 q4 q5 q6; obtain ⟨q0, q1, q2, q3, q4, q5, q6⟩ := Lay.c7 (b := w.heap.size) M0; have m1f := M1.free; obtain ⟨z0, z1, z2, z3, z4, z5, z6⟩ := Lay.c7 (b := w.heap.size + 1) M1) | (go_at_call 36; refine (copiedE_any now nx cT cO cP cL cK (hT.here b2) (hO.here b2) (hP.here b2) (hL.here b2) (hK.here b2) nT nO nP mL sL mK sK l0).mono ?_; rintro e u1 ⟨bT, dT, bO, dO, bP, dP, bL, dL, bK, dK, GK, lh, ph, rfl, lv, lb, tv, ck, hz, hb1⟩))
  clear z0 z1 z2 z3 z4 z5 z6 m1f
  obtain ⟨x, hx⟩ : ∃ x, x = u1.alloc (.cells #[.int .i64 now, .slice bT T.length dT, .slice bO O.length dO, .slice bP P.length dP, .slice bL L.length dL, .slice bK K.length dK, .int .i64 nx] 38) := ⟨_, rfl⟩
  rw [← hx]
  have LX : Lay x u1.heap.size [.int .i64 now, .slice bT T.length dT, .slice bO O.length dO, .slice bP P.length dP, .slice bL L.length dL, .slice bK K.length dK, .int .i64 nx] := by rw [hx]; exact lay_new [.int .i64 now, .slice bT T.length dT, .slice bO O.length dO, .slice bP P.length dP, .slice bL L.length dL, .slice bK K.length dK, .int .i64 nx] _ rfl
  have bx : Below u1.heap.size u1 x := by rw [hx]; exact new_below _ _
  clear hx
  have X1 := (M1.next hb1).next bx
  have kls := (((ck.next bx).kv rfl).kls).2
  have z1 := hb1.size
  have zx := bx.size
  have zb := b2.size
  have z2 := hb2.size
  have hlx := LX.lt
  obtain ⟨j0, j1, j2, j3, j4, j5, j6⟩ := Lay.c7 (b := u1.heap.size) LX
  go_wp2_with (first | (go_at_call 38; refine (connAt_any dK id kls k40 HRI.out).mono ?_; rintro e x2 hat; obtain ⟨⟨p, rfl⟩, hb3⟩ := at_noE hf hat; have LX2 := LX.next hb3; have X2 := X1.next hb3; obtain ⟨c0, c1, c2, c3, c4, c5, c6⟩ := Lay.c7 (b := u1.heap.size) LX2; obtain ⟨d0, d1, d2, d3, d4, d5, d6⟩ := Lay.c7 (b := w.heap.size + 1) X2; have df := X2.free; clear j0 j1 j2 j3 j4 j5 j6))
  obtain ⟨u, hu', ou, U⟩ := st7 (b := w.heap.size + 1) X2 (.int .i64 now) (.slice bT T.length dT) (.slice bO O.length dO) (.slice bP P.length dP) (.slice bL L.length dL) (.slice bK K.length dK) (.int .i64 nx)
  rw [hu']
  clear hu'
  have zu := ou.size
  have z3 := hb3.size
  have hB : Below u1.heap.size u1 x2 := below_two bx hb3
  have hz1 := hz.1
  have hz2 := hz.2.1
  have hz3 := hz.2.2
  have zb2 := hB.size
  have bw : Below w.heap.size w x2 := below_two (below_two b2 hb1) hB
  refine bodyPost_ret (results_threeE rfl _ _ _ [.int .i64 now, .slice bT T.length dT, .slice bO O.length dO, .slice bP P.length dP, .slice bL L.length dL, .slice bK K.length dK, .int .i64 nx] rfl U.cell Tryz.underlying38 rfl (by kernel_rfl)) rfl ?_
  exact ⟨bT, dT, bO, dO, bP, dP, bL, dL, bK, dK, rfl, cp_out (lv.next hB) lb (tv.next hB) (ck.next hB) ⟨by omega, hz2, by omega⟩ ou (by omega) (by omega), bw.trans (ou.below (by omega) bw.size)⟩
set_option maxHeartbeats 8000000 in
theorem copiedWith_go {w : World} (now nx : Int) {aT aO aP aL aK : Option Addr} (cT cO cP cL cK : Nat) {T O P : List Q4} {L : List F8} {K : List Kn} (id : Int) (hT : Quad w.heap.size w aT T) (hO : Quad w.heap.size w aO O) (hP : Quad w.heap.size w aP P) (hL : Fls w.heap.size w aL L) (hK : Kls w.heap.size w aK K) (mL : L.length ≤ 1048576) (sL : ∀ f ∈ L, f.2.2.length ≤ 1048576) (mK : K.length ≤ 1048576) (sK : ∀ c ∈ K, c.xs.length ≤ 1048576) (h1 : engB now nx T O P L K = true) (i : Nat) (hi : i < K.length) (hf : fK K id = (i : Int)) : Calls Tryz.prog 59 #[engV now aT T.length cT aO O.length cO aP P.length cP aL L.length cL aK K.length cK nx, .int .i64 id] w (CpEng3 w now nx T O P L K (.int .i64 i) (.int .i64 0)) := by
  have sKm : ∀ c ∈ K, c.xs.length ≤ maxLen := fun c hc => Nat.le_trans (sK c hc) (by unfold maxLen; omega)
  obtain ⟨nT, nO, nP⟩ := eg_lens (eg_yes h1)
  have l0 := (eg_yes h1).l0
  have k40 := (eg_yes h1).k1
  have HRI : Hid (∀ i j (h1 : i < K.length) (h2 : j < K.length), i < j → K[i].id < K[j].id) := eg_rise (eg_yes h1)
  have HD : Hid (K[i].id = id) := fK_id hi hf
  clear hf
  obtain ⟨v, hv, nb, L0, L1⟩ := pre2 w 38 [.int .i64 now, .slice aT T.length cT, .slice aO O.length cO, .slice aP P.length cP, .slice aL L.length cL, .slice aK K.length cK, .int .i64 nx] [.int .i64 0, .slice none 0 0, .slice none 0 0, .slice none 0 0, .slice none 0 0, .slice none 0 0, .int .i64 0]
  have hw1 := L1.lt
  go_enter Tryz.func59, Tryz.ntmps59
  go_upto_region 1 with (fail)
  rw [← hv]
  clear hv
  obtain ⟨q0, q1, q2, q3, q4, q5, q6⟩ := Lay.c7 (b := w.heap.size) L0
  go_upto_region 4 with (first | (go_at_call 35; refine (implEngineOk_is cT cO cP cL cK h1 (hT.here nb) (hO.here nb) (hP.here nb) (hL.here nb) (hK.here nb) mL sL mK sKm).mono ?_; rintro e v2 ⟨rfl, hb2⟩; have b2 := below_two nb hb2; have M0 := L0.next hb2; have M1 := L1.next hb2; clear q0 q1 q2 q3 q4 q5 q6; obtain ⟨q0, q1, q2, q3, q4, q5, q6⟩ := Lay.c7 (b := w.heap.size) M0; have m1f := M1.free; obtain ⟨z0, z1, z2, z3, z4, z5, z6⟩ := Lay.c7 (b := w.heap.size + 1) M1) | (go_at_call 36; refine (copiedE_any now nx cT cO cP cL cK (hT.here b2) (hO.here b2) (hP.here b2) (hL.here b2) (hK.here b2) nT nO nP mL sL mK sK l0).mono ?_; rintro e u1 ⟨bT, dT, bO, dO, bP, dP, bL, dL, bK, dK, GK, lh, ph, rfl, lv, lb, tv, ck, hz, hb1⟩))
  clear z0 z1 z2 z3 z4 z5 z6 m1f
  obtain ⟨x, hx⟩ : ∃ x, x = u1.alloc (.cells #[.int .i64 now, .slice bT T.length dT, .slice bO O.length dO, .slice bP P.length dP, .slice bL L.length dL, .slice bK K.length dK, .int .i64 nx] 38) := ⟨_, rfl⟩
  rw [← hx]
  have LX : Lay x u1.heap.size [.int .i64 now, .slice bT T.length dT, .slice bO O.length dO, .slice bP P.length dP, .slice bL L.length dL, .slice bK K.length dK, .int .i64 nx] := by rw [hx]; exact lay_new [.int .i64 now, .slice bT T.length dT, .slice bO O.length dO, .slice bP P.length dP, .slice bL L.length dL, .slice bK K.length dK, .int .i64 nx] _ rfl
  have bx : Below u1.heap.size u1 x := by rw [hx]; exact new_below _ _
  clear hx
  have X1 := (M1.next hb1).next bx
  have kls := (((ck.next bx).kv rfl).kls).2
  have z1 := hb1.size
  have zx := bx.size
  have zb := b2.size
  have z2 := hb2.size
  have hlx := LX.lt
  obtain ⟨j0, j1, j2, j3, j4, j5, j6⟩ := Lay.c7 (b := u1.heap.size) LX
  go_wp2_with (first | (go_at_call 38; refine (connAt_any dK id kls k40 HRI.out).mono ?_; rintro e x2 hat; obtain ⟨he, hb3⟩ := at_yesE HRI.out hi HD.out hat; subst he; have LX2 := LX.next hb3; have X2 := X1.next hb3; obtain ⟨c0, c1, c2, c3, c4, c5, c6⟩ := Lay.c7 (b := u1.heap.size) LX2; obtain ⟨d0, d1, d2, d3, d4, d5, d6⟩ := Lay.c7 (b := w.heap.size + 1) X2; have df := X2.free; clear j0 j1 j2 j3 j4 j5 j6))
  obtain ⟨u, hu', ou, U⟩ := st7 (b := w.heap.size + 1) X2 (.int .i64 now) (.slice bT T.length dT) (.slice bO O.length dO) (.slice bP P.length dP) (.slice bL L.length dL) (.slice bK K.length dK) (.int .i64 nx)
  rw [hu']
  clear hu'
  have zu := ou.size
  have z3 := hb3.size
  have hB : Below u1.heap.size u1 x2 := below_two bx hb3
  have hz1 := hz.1
  have hz2 := hz.2.1
  have hz3 := hz.2.2
  have zb2 := hB.size
  have bw : Below w.heap.size w x2 := below_two (below_two b2 hb1) hB
  refine bodyPost_ret (results_threeE rfl _ _ _ [.int .i64 now, .slice bT T.length dT, .slice bO O.length dO, .slice bP P.length dP, .slice bL L.length dL, .slice bK K.length dK, .int .i64 nx] rfl U.cell Tryz.underlying38 rfl (by kernel_rfl)) rfl ?_
  have lq := lv.next hB
  have lu : LV u v2.heap.size (.slice bT T.length dT) (.slice bO O.length dO) (.slice bP P.length dP) T O P := lq.onlyP (OnlyP.ofOnly (p := fun k => k = w.heap.size + 1) ou rfl) (fun b e e' => by have := (lv.t.own e).1; omega) (fun b e e' => by have := (lv.o.own e).1; omega) (fun b e e' => by have := (lv.p.own e).1; omega)
  have tu : TV u lh ph (.slice bL L.length dL) L := (tv.next hB).same ou.size (fun b a1 a2 a3 => ou.block b a3 (by omega))
  have ku : CpK u ph (.slice bK K.length dK) GK K := (ck.next hB).only1 ou (by omega)
  exact ⟨bT, dT, bO, dO, bP, dP, bL, dL, bK, dK, GK, lh, ph, rfl, lu.lower (by omega), lb, tu, ku, ⟨by omega, hz2, by omega⟩, bw.trans (ou.below (by omega) bw.size)⟩
set_option maxHeartbeats 8000000 in
theorem implCls_bad {w : World} (now nx : Int) {aT aO aP aL aK : Option Addr} (cT cO cP cL cK : Nat) {T O P : List Q4} {L : List F8} {K : List Kn} (id : Int) (hT : Quad w.heap.size w aT T) (hO : Quad w.heap.size w aO O) (hP : Quad w.heap.size w aP P) (hL : Fls w.heap.size w aL L) (hK : Kls w.heap.size w aK K) (mL : L.length ≤ 1048576) (sL : ∀ f ∈ L, f.2.2.length ≤ 1048576) (mK : K.length ≤ 1048576) (sK : ∀ c ∈ K, c.xs.length ≤ 1048576) (h1 : engB now nx T O P L K = false) : Calls Tryz.prog 19 #[engV now aT T.length cT aO O.length cO aP P.length cP aL L.length cL aK K.length cK nx, .int .i64 id] w (EgPost w 0 0 [] [] [] [] [] (.int .i64 1)) := by
  obtain ⟨v, hv, nb, L0, L1⟩ := pre2 w 38 [.int .i64 now, .slice aT T.length cT, .slice aO O.length cO, .slice aP P.length cP, .slice aL L.length cL, .slice aK K.length cK, .int .i64 nx] [.int .i64 0, .slice none 0 0, .slice none 0 0, .slice none 0 0, .slice none 0 0, .slice none 0 0, .int .i64 0]
  have hw1 := L1.lt
  go_enter Tryz.func19, Tryz.ntmps19
  go_upto_region 1 with (fail)
  rw [← hv]
  clear hv
  obtain ⟨q0, q1, q2, q3, q4, q5, q6⟩ := Lay.c7 (b := w.heap.size) L0
  go_upto_region 2 with (first | (go_at_call 59; refine (copiedWith_bad now nx cT cO cP cL cK id (hT.here nb) (hO.here nb) (hP.here nb) (hL.here nb) (hK.here nb) mL sL mK sK h1).mono ?_; rintro e u1 ⟨bT, dT, bO, dO, bP, dP, bL, dL, bK, dK, rfl, eg, hb1⟩; have HEG : Hid (Eng u1 v.heap.size u1.heap.size (.slice bT 0 dT) (.slice bO 0 dO) (.slice bP 0 dP) (.slice bL 0 dL) (.slice bK 0 dK) [] [] [] [] []) := eg))
  obtain ⟨x, hx⟩ : ∃ x, x = u1.alloc (.cells #[.int .i64 0, .slice bT 0 dT, .slice bO 0 dO, .slice bP 0 dP, .slice bL 0 dL, .slice bK 0 dK, .int .i64 0] 38) := ⟨_, rfl⟩
  rw [← hx]
  have LX : Lay x u1.heap.size [.int .i64 0, .slice bT 0 dT, .slice bO 0 dO, .slice bP 0 dP, .slice bL 0 dL, .slice bK 0 dK, .int .i64 0] := by rw [hx]; exact lay_new [.int .i64 0, .slice bT 0 dT, .slice bO 0 dO, .slice bP 0 dP, .slice bL 0 dL, .slice bK 0 dK, .int .i64 0] _ rfl
  have bx : Below u1.heap.size u1 x := by rw [hx]; exact new_below _ _
  clear hx q0 q1 q2 q3 q4 q5 q6
  have X1 := (L1.next hb1).next bx
  have z1 := hb1.size
  have zx := bx.size
  have zb := nb.size
  have hlx := LX.lt
  obtain ⟨j0, j1, j2, j3, j4, j5, j6⟩ := Lay.c7 (b := u1.heap.size) LX
  obtain ⟨d0, d1, d2, d3, d4, d5, d6⟩ := Lay.c7 (b := w.heap.size + 1) X1
  have df := X1.free
  go_wp2
  obtain ⟨u, hu', ou, U⟩ := st7 (b := w.heap.size + 1) X1 (.int .i64 0) (.slice bT 0 dT) (.slice bO 0 dO) (.slice bP 0 dP) (.slice bL 0 dL) (.slice bK 0 dK) (.int .i64 0)
  rw [hu']
  clear hu'
  have zu := ou.size
  refine bodyPost_ret (results_two rfl _ _ _ [.int .i64 0, .slice bT 0 dT, .slice bO 0 dO, .slice bP 0 dP, .slice bL 0 dL, .slice bK 0 dK, .int .i64 0] rfl U.cell Tryz.underlying38 rfl (by kernel_rfl)) rfl ?_
  have bw : Below w.heap.size w x := below_two (below_two nb hb1) bx
  have zbw := bw.size
  exact ⟨bT, dT, bO, dO, bP, dP, bL, dL, bK, dK, rfl, engO (HEG.out.next bx) ou (by omega) (by omega) (by omega), bw.trans (ou.below (by omega) bw.size)⟩
set_option maxHeartbeats 8000000 in
theorem implCls_id {w : World} (now nx : Int) {aT aO aP aL aK : Option Addr} (cT cO cP cL cK : Nat) {T O P : List Q4} {L : List F8} {K : List Kn} (id : Int) (hT : Quad w.heap.size w aT T) (hO : Quad w.heap.size w aO O) (hP : Quad w.heap.size w aP P) (hL : Fls w.heap.size w aL L) (hK : Kls w.heap.size w aK K) (mL : L.length ≤ 1048576) (sL : ∀ f ∈ L, f.2.2.length ≤ 1048576) (mK : K.length ≤ 1048576) (sK : ∀ c ∈ K, c.xs.length ≤ 1048576) (h1 : engB now nx T O P L K = true) (hf : fK K id = -1) : Calls Tryz.prog 19 #[engV now aT T.length cT aO O.length cO aP P.length cP aL L.length cL aK K.length cK nx, .int .i64 id] w (EgPost w now nx T O P L K (.int .i64 2)) := by
  obtain ⟨v, hv, nb, L0, L1⟩ := pre2 w 38 [.int .i64 now, .slice aT T.length cT, .slice aO O.length cO, .slice aP P.length cP, .slice aL L.length cL, .slice aK K.length cK, .int .i64 nx] [.int .i64 0, .slice none 0 0, .slice none 0 0, .slice none 0 0, .slice none 0 0, .slice none 0 0, .int .i64 0]
  have hw1 := L1.lt
  go_enter Tryz.func19, Tryz.ntmps19
  go_upto_region 1 with (fail)
  rw [← hv]
  clear hv
  obtain ⟨q0, q1, q2, q3, q4, q5, q6⟩ := Lay.c7 (b := w.heap.size) L0
  go_upto_region 2 with (first | (go_at_call 59; refine (copiedWith_id now nx cT cO cP cL cK id (hT.here nb) (hO.here nb) (hP.here nb) (hL.here nb) (hK.here nb) mL sL mK sK h1 hf).mono ?_; rintro e u1 ⟨bT, dT, bO, dO, bP, dP, bL, dL, bK, dK, rfl, eg, hb1⟩; have HEG : Hid (Eng u1 v.heap.size u1.heap.size (.slice bT T.length dT) (.slice bO O.length dO) (.slice bP P.length dP) (.slice bL L.length dL) (.slice bK K.length dK) T O P L K) := eg))
  obtain ⟨x, hx⟩ : ∃ x, x = u1.alloc (.cells #[.int .i64 now, .slice bT T.length dT, .slice bO O.length dO, .slice bP P.length dP, .slice bL L.length dL, .slice bK K.length dK, .int .i64 nx] 38) := ⟨_, rfl⟩
  rw [← hx]
  have LX : Lay x u1.heap.size [.int .i64 now, .slice bT T.length dT, .slice bO O.length dO, .slice bP P.length dP, .slice bL L.length dL, .slice bK K.length dK, .int .i64 nx] := by rw [hx]; exact lay_new [.int .i64 now, .slice bT T.length dT, .slice bO O.length dO, .slice bP P.length dP, .slice bL L.length dL, .slice bK K.length dK, .int .i64 nx] _ rfl
  have bx : Below u1.heap.size u1 x := by rw [hx]; exact new_below _ _
  clear hx q0 q1 q2 q3 q4 q5 q6
  have X1 := (L1.next hb1).next bx
  have z1 := hb1.size
  have zx := bx.size
  have zb := nb.size
  have hlx := LX.lt
  obtain ⟨j0, j1, j2, j3, j4, j5, j6⟩ := Lay.c7 (b := u1.heap.size) LX
  obtain ⟨d0, d1, d2, d3, d4, d5, d6⟩ := Lay.c7 (b := w.heap.size + 1) X1
  have df := X1.free
  go_wp2
  obtain ⟨u, hu', ou, U⟩ := st7 (b := w.heap.size + 1) X1 (.int .i64 now) (.slice bT T.length dT) (.slice bO O.length dO) (.slice bP P.length dP) (.slice bL L.length dL) (.slice bK K.length dK) (.int .i64 nx)
  rw [hu']
  clear hu'
  have zu := ou.size
  refine bodyPost_ret (results_two rfl _ _ _ [.int .i64 now, .slice bT T.length dT, .slice bO O.length dO, .slice bP P.length dP, .slice bL L.length dL, .slice bK K.length dK, .int .i64 nx] rfl U.cell Tryz.underlying38 rfl (by kernel_rfl)) rfl ?_
  have bw : Below w.heap.size w x := below_two (below_two nb hb1) bx
  have zbw := bw.size
  exact ⟨bT, dT, bO, dO, bP, dP, bL, dL, bK, dK, rfl, engO (HEG.out.next bx) ou (by omega) (by omega) (by omega), bw.trans (ou.below (by omega) bw.size)⟩
set_option maxHeartbeats 8000000 in
theorem implCls_go {w : World} (now nx : Int) {aT aO aP aL aK : Option Addr} (cT cO cP cL cK : Nat) {T O P : List Q4} {L : List F8} {K : List Kn} (id : Int) (hT : Quad w.heap.size w aT T) (hO : Quad w.heap.size w aO O) (hP : Quad w.heap.size w aP P) (hL : Fls w.heap.size w aL L) (hK : Kls w.heap.size w aK K) (mL : L.length ≤ 1048576) (sL : ∀ f ∈ L, f.2.2.length ≤ 1048576) (mK : K.length ≤ 1048576) (sK : ∀ c ∈ K, c.xs.length ≤ 1048576) (h1 : engB now nx T O P L K = true) (i : Nat) (hi : i < K.length) (hf : fK K id = (i : Int)) (p : Nat) (hpl : K[i].pl = (p : Int)) (hp : p < L.length) : Calls Tryz.prog 19 #[engV now aT T.length cT aO O.length cO aP P.length cP aL L.length cL aK K.length cK nx, .int .i64 id] w (EgPost w now nx T O P (L.set p (clsP L p id K[i].fl)) (K.eraseIdx i) (.int .i64 0)) := by
  have l0 := (eg_yes h1).l0
  have hi' : (i : Int) < (K.length : Int) := by omega
  have hi0 : (0 : Int) ≤ (i : Int) := by omega
  have hpb := ((eg_yes h1).pl p hp).1
  have hhas := eg_has (eg_yes h1) hi hpl hp
  have hid := fK_idc hi hf
  rw [hid] at hhas
  have h40 := (eg_yes h1).k1
  have hwn : w10B K[i].fl = true := by
    have q := (cc_num (eg_cc (eg_yes h1) hi).1).2.2.2.1
    unfold w10B
    simp only [Bool.and_eq_true, decide_eq_true_eq]
    exact q
  rw [clsP_at hp id K[i].fl]
  have HPB : Hid (plB L[p].1 L[p].2.1 L[p].2.2 = true) := hpb
  have HHS : Hid (hasI id L[p].2.2 = true) := hhas
  have HWN : Hid (w10B K[i].fl = true) := hwn
  have HPL : Hid (K[i].pl = (p : Int)) := hpl
  have hp' : (p : Int) < (L.length : Int) := by omega
  have hp0 : (0 : Int) ≤ (p : Int) := by omega
  clear hpb hhas hwn hpl hid
  obtain ⟨v, hv, nb, L0, L1⟩ := pre2 w 38 [.int .i64 now, .slice aT T.length cT, .slice aO O.length cO, .slice aP P.length cP, .slice aL L.length cL, .slice aK K.length cK, .int .i64 nx] [.int .i64 0, .slice none 0 0, .slice none 0 0, .slice none 0 0, .slice none 0 0, .slice none 0 0, .int .i64 0]
  have hw1 := L1.lt
  go_enter Tryz.func19, Tryz.ntmps19
  go_upto_region 1 with (fail)
  rw [← hv]
  clear hv
  obtain ⟨q0, q1, q2, q3, q4, q5, q6⟩ := Lay.c7 (b := w.heap.size) L0
  go_upto_region 2 with (first | (go_at_call 59; refine (copiedWith_go now nx cT cO cP cL cK id (hT.here nb) (hO.here nb) (hP.here nb) (hL.here nb) (hK.here nb) mL sL mK sK h1 i hi hf).mono ?_; rintro e u1 ⟨bT, dT, bO, dO, bP, dP, bL, dL, bK, dK, GK, lh, ph, rfl, lv, lb, tv, ck, hz, hb1⟩))
  obtain ⟨gk, hbK⟩ : ∃ gk, bK = some ⟨gk, 0, none⟩ := by
    rcases ck.row.2 with ⟨e, e2⟩ | ⟨gk, capk, cur, e, _⟩
    · omega
    · injection e with e1
      exact ⟨gk, e1⟩
  subst hbK
  obtain ⟨gl, hbL⟩ : ∃ gl, bL = some ⟨gl, 0, none⟩ := by
    rcases tv with ⟨g, cap, vs, e, _⟩ | ⟨e, _⟩
    · injection e with e1
      exact ⟨g, e1⟩
    · rw [e] at l0
      simp at l0
  subst hbL
  obtain ⟨x, hx⟩ : ∃ x, x = u1.alloc (.cells #[.int .i64 now, .slice bT T.length dT, .slice bO O.length dO, .slice bP P.length dP, .slice (some ⟨gl, 0, none⟩) L.length dL, .slice (some ⟨gk, 0, none⟩) K.length dK, .int .i64 nx] 38) := ⟨_, rfl⟩
  rw [← hx]
  have LX : Lay x u1.heap.size [.int .i64 now, .slice bT T.length dT, .slice bO O.length dO, .slice bP P.length dP, .slice (some ⟨gl, 0, none⟩) L.length dL, .slice (some ⟨gk, 0, none⟩) K.length dK, .int .i64 nx] := by rw [hx]; exact lay_new [.int .i64 now, .slice bT T.length dT, .slice bO O.length dO, .slice bP P.length dP, .slice (some ⟨gl, 0, none⟩) L.length dL, .slice (some ⟨gk, 0, none⟩) K.length dK, .int .i64 nx] _ rfl
  have bx : Below u1.heap.size u1 x := by rw [hx]; exact new_below _ _
  clear hx q0 q1 q2 q3 q4 q5 q6
  have X1 := (L1.next hb1).next bx
  have z1 := hb1.size
  have zx := bx.size
  have zb := nb.size
  have hlx := LX.lt
  have hgl := ck.len
  have hiG : i < GK.length := by omega
  have hgi : GK[i].1 = K[i] := by
    have : (GK.map Prod.fst)[i]? = K[i]? := by rw [ck.fst]
    rw [List.getElem?_map, List.getElem?_eq_getElem hiG, List.getElem?_eq_getElem hi] at this
    exact Option.some.inj this
  have HGK : Hid (GK[i].1 = K[i]) := hgi
  obtain ⟨m, hm⟩ : ∃ m, K[i].xs.length = m := ⟨_, rfl⟩
  have HM : Hid (K[i].xs.length = m) := hm
  have HXL : Hid (GK[i].1.xs.length = m) := by show GK[i].1.xs.length = m; rw [hgi]; exact hm
  obtain ⟨sv, cv, hsv⟩ := own_slice (ck.ints i hiG)
  have HGI2 : Hid (GK[i].2 = .slice sv m cv) := by show GK[i].2 = _; rw [hsv, HXL.out]
  have HSEP : Hid (∀ q, GK[i].2.ownBlock = some q → ph ≤ q ∧ q < u1.heap.size) := fun q hq => (ck.ints i hiG).lt q hq
  have hgk := ck.row.lt gk rfl
  have hmi : m ≤ 1048576 := by have := sK K[i] (List.getElem_mem hi); omega
  have HCK1 : Hid (CpK u1 ph (.slice (some ⟨gk, 0, none⟩) K.length dK) GK K) := ck
  have CX : Hid (CpK x ph (.slice (some ⟨gk, 0, none⟩) K.length dK) GK K) := ck.next bx
  have hzA := hz.1
  have hzB := hz.2.1
  have hzC := hz.2.2
  have e13 : x.cell? ⟨gk, i * 14 + 13, none⟩ = some (.slice sv m cv) := (CX.out.row.cellAt _ (by omega)).trans ((flatK_get GK i hiG 13 (by omega)).trans (by show some GK[i].2 = _; rw [HGI2.out]))
  clear hgl hgi hsv hm
  have dd : ∀ j u, (cs14 (K[i], .slice sv m cv))[j]? = some u → x.cell? ⟨gk, i * 14 + j, none⟩ = some u := fun j u hu => by
    have hj := (List.getElem?_eq_some_iff.1 hu).1
    rw [cs14_length] at hj
    have hG : GK[i] = (K[i], .slice sv m cv) := Prod.ext HGK.out HGI2.out
    refine (CX.out.row.cellAt _ (by omega)).trans ((flatK_get GK i hiG j hj).trans ?_)
    rw [hG]
    exact hu
  have d0 : x.cell? ⟨gk, i * 14, none⟩ = some (.int .i64 K[i].id) := dd 0 _ rfl
  have d1 : x.cell? ⟨gk, i * 14 + 1, none⟩ = some (.int .i64 K[i].lf) := dd 1 _ rfl
  have d2 : x.cell? ⟨gk, i * 14 + 2, none⟩ = some (.int .i64 (p : Int)) := by rw [← HPL.out]; exact dd 2 _ rfl
  have d3 : x.cell? ⟨gk, i * 14 + 3, none⟩ = some (.int .i64 K[i].k) := dd 3 _ rfl
  have d4 : x.cell? ⟨gk, i * 14 + 4, none⟩ = some (.int .i64 K[i].wn) := dd 4 _ rfl
  have d5 : x.cell? ⟨gk, i * 14 + 5, none⟩ = some (.int .i64 K[i].th) := dd 5 _ rfl
  have d6 : x.cell? ⟨gk, i * 14 + 6, none⟩ = some (.int .i64 K[i].fl) := dd 6 _ rfl
  have d7 : x.cell? ⟨gk, i * 14 + 7, none⟩ = some (.int .i64 K[i].ac) := dd 7 _ rfl
  have d8 : x.cell? ⟨gk, i * 14 + 8, none⟩ = some (.int .i64 K[i].la) := dd 8 _ rfl
  have d9 : x.cell? ⟨gk, i * 14 + 9, none⟩ = some (.int .i64 K[i].og) := dd 9 _ rfl
  have d10 : x.cell? ⟨gk, i * 14 + 10, none⟩ = some (.int .i64 K[i].st) := dd 10 _ rfl
  have d11 : x.cell? ⟨gk, i * 14 + 11, none⟩ = some (.int .i64 K[i].fr) := dd 11 _ rfl
  have d12 : x.cell? ⟨gk, i * 14 + 12, none⟩ = some (.bool K[i].sl) := dd 12 _ rfl
  have d13 : x.cell? ⟨gk, i * 14 + 13, none⟩ = some (.slice sv m cv) := dd 13 _ rfl
  obtain ⟨j0, j1, j2, j3, j4, j5, j6⟩ := LX.c7
  clear dd e13
  go_upto_region 5 with (fail)
  obtain ⟨y0, hy0⟩ : ∃ y, y = x.alloc (.cells #[.int .i64 K[i].id, .int .i64 K[i].lf, .int .i64 (p : Int), .int .i64 K[i].k, .int .i64 K[i].wn, .int .i64 K[i].th, .int .i64 K[i].fl, .int .i64 K[i].ac, .int .i64 K[i].la, .int .i64 K[i].og, .int .i64 K[i].st, .int .i64 K[i].fr, .bool K[i].sl, .slice sv m cv] 66) := ⟨_, rfl⟩
  rw [← hy0]
  have LC0 : Lay y0 x.heap.size [.int .i64 K[i].id, .int .i64 K[i].lf, .int .i64 (p : Int), .int .i64 K[i].k, .int .i64 K[i].wn, .int .i64 K[i].th, .int .i64 K[i].fl, .int .i64 K[i].ac, .int .i64 K[i].la, .int .i64 K[i].og, .int .i64 K[i].st, .int .i64 K[i].fr, .bool K[i].sl, .slice sv m cv] := by rw [hy0]; exact lay_new [.int .i64 K[i].id, .int .i64 K[i].lf, .int .i64 (p : Int), .int .i64 K[i].k, .int .i64 K[i].wn, .int .i64 K[i].th, .int .i64 K[i].fl, .int .i64 K[i].ac, .int .i64 K[i].la, .int .i64 K[i].og, .int .i64 K[i].st, .int .i64 K[i].fr, .bool K[i].sl, .slice sv m cv] _ rfl
  have by0 : Below x.heap.size x y0 := by rw [hy0]; exact new_below _ _
  clear hy0 d0 d1 d2 d3 d4 d5 d6 d7 d8 d9 d10 d11 d12 d13 j0 j1 j2 j3 j4 j5 j6
  have zy0 := by0.size
  have CY : Hid (CpK y0 ph (.slice (some ⟨gk, 0, none⟩) K.length dK) GK K) := CX.out.next by0
  have hcap : K.length ≤ dK := by
    rcases CX.out.row.2 with ⟨e, _⟩ | ⟨g', cap', cur, e, _, _, hnc, _⟩
    · cases e
    · injection e with e1 e2 e3
      subst e3
      exact hnc
  have LXy := LX.next by0
  obtain ⟨j0, j1, j2, j3, j4, j5, j6⟩ := LXy.c7
  go_upto_region 6 with (first | (go_at_call 60; refine (delete1_any CY.out hi h40 hcap (by omega)).mono ?_; rintro e u2 ⟨rfl, ck2, o2⟩; have LX2 := (LX.next by0).only o2 (by omega); obtain ⟨j0, j1, j2, j3, j4, j5, j6⟩ := LX2.c7; have jf := LX2.free))
  obtain ⟨y, hyy⟩ : ∃ y, y = u2.setCells u1.heap.size 5 [.slice (some ⟨gk, 0, none⟩) (K.eraseIdx i).length dK] := ⟨_, rfl⟩
  have hy' : u2.setCell ⟨u1.heap.size, 5, none⟩ (.slice (some ⟨gk, 0, none⟩) (K.eraseIdx i).length dK) = y := hyy.symm
  rw [hy']
  clear hy'
  have oy : Only u1.heap.size u2 y := by rw [hyy]; exact onlyCells _ _ _
  have LY : Lay y u1.heap.size [.int .i64 now, .slice bT T.length dT, .slice bO O.length dO, .slice bP P.length dP, .slice (some ⟨gl, 0, none⟩) L.length dL, .slice (some ⟨gk, 0, none⟩) (K.eraseIdx i).length dK, .int .i64 nx] := by rw [hyy]; exact LX2.put (p := [.int .i64 now, .slice bT T.length dT, .slice bO O.length dO, .slice bP P.length dP, .slice (some ⟨gl, 0, none⟩) L.length dL]) (q := [.slice (some ⟨gk, 0, none⟩) K.length dK]) (r := [.int .i64 nx]) [.slice (some ⟨gk, 0, none⟩) (K.eraseIdx i).length dK] rfl
  clear hyy j0 j1 j2 j3 j4 j5 j6 jf
  have zo2 := o2.size
  have zoy := oy.size
  have XY := ((X1.next by0).only o2 (by omega)).only oy (by omega)
  have LC := ((LC0.only o2 (by omega)).only oy (by omega))
  have bxy := below_two bx by0
  have zbxy := bxy.size
  have lvy : LV y v.heap.size (.slice bT T.length dT) (.slice bO O.length dO) (.slice bP P.length dP) T O P := ((lv.next bxy).onlyP (OnlyP.ofOnly (p := fun b => b = gk) o2 rfl) (fun b e e' => by have := lb b (.inl e); omega) (fun b e e' => by have := lb b (.inr (.inl e)); omega) (fun b e e' => by have := lb b (.inr (.inr e)); omega)).onlyP (OnlyP.ofOnly (p := fun b => b = u1.heap.size) oy rfl) (fun b e e' => by have := lb b (.inl e); omega) (fun b e e' => by have := lb b (.inr (.inl e)); omega) (fun b e e' => by have := lb b (.inr (.inr e)); omega)
  have tvy : TV y lh ph (.slice (some ⟨gl, 0, none⟩) L.length dL) L := ((tv.next bxy).same o2.size (fun b a1 a2 a3 => o2.block b a3 (by omega))).same oy.size (fun b a1 a2 a3 => oy.block b a3 (by omega))
  have hty2 : ∀ b, (Value.slice (some ⟨gk, 0, none⟩) (K.eraseIdx i).length dK).ownBlock = some b → b ≠ u1.heap.size := fun b e => by have e : gk = b := Option.some.inj e; omega
  have cky : CpK y ph (.slice (some ⟨gk, 0, none⟩) (K.eraseIdx i).length dK) (GK.eraseIdx i) (K.eraseIdx i) := by
    have kp : ∀ {e : TypeId} {s n : Nat} {v : Value} {xs : List Value}, u2.ownsRow ph e s v n xs → (∀ b, v.ownBlock = some b → b ≠ u1.heap.size) → y.ownsRow ph e s v n xs := fun {e s n v xs} hr hne => row_keepO hr (OnlyO.of_only oy) (fun b e e' => hne b e (Option.some.inj e').symm)
    refine ⟨kp ck2.row hty2, ck2.fst, fun k hk => kp (ck2.ints k hk) (fun b e => ?_), fun k hk b e => ⟨Nat.lt_of_lt_of_le (ck2.sep k hk b e).1 oy.size, (ck2.sep k hk b e).2⟩⟩
    obtain ⟨j, hj, e1, _⟩ := erase_at hk
    rw [e1] at e
    have := (HCK1.out.sep j hj b e).1
    omega
  have tvk := tvy
  have hglb : lh ≤ gl ∧ gl < ph := by
    rcases tvk with ⟨g, cap, vs, e, _, f⟩ | ⟨e, _⟩
    · injection e with e1
      injection e1 with e1
      injection e1 with e1
      subst e1
      exact ⟨f.g0, f.g1⟩
    · rw [e] at l0
      simp at l0
  obtain ⟨uL, eo⟩ := cp_own2 lvy lb tvy cky ⟨hzA, hzB, by omega⟩
  have EY : Hid (EOwn y v.heap.size y.heap.size (.slice bT T.length dT) (.slice bO O.length dO) (.slice bP P.length dP) (.slice (some ⟨gl, 0, none⟩) L.length dL) uL (.slice (some ⟨gk, 0, none⟩) (K.eraseIdx i).length dK) ((GK.eraseIdx i).map (·.2)) T O P L (K.eraseIdx i)) := eo
  clear eo lvy tvy cky ck2 tvk lv tv
  have hgl1 := hglb.1
  have hgl2 := hglb.2
  obtain ⟨q0, q1, qf, sa, sc, q2, qu, qsm⟩ := EY.out.plc hp
  have HSM : Hid (ISmp y.heap.size y sa L[p].2.2) := qsm
  have HS : Hid (∀ u, Below y.heap.size y u → u.cell? ⟨u1.heap.size, 4, none⟩ = some (.slice (some ⟨gl, 0, none⟩) L.length dL) ∧ u.cell? ⟨x.heap.size, 2, none⟩ = some (.int .i64 (p : Int)) ∧ u.cell? ⟨x.heap.size, 6, none⟩ = some (.int .i64 K[i].fl)) := fun u hu => ⟨(LY.next hu).cell 4 _ rfl, (LC.next hu).cell 2 _ rfl, (LC.next hu).cell 6 _ rfl⟩
  clear qf qu qsm
  refine wp_region_held_drew (S := fun w' => w'.cell? ⟨u1.heap.size, 4, none⟩ = some (.slice (some ⟨gl, 0, none⟩) L.length dL) ∧ w'.cell? ⟨x.heap.size, 2, none⟩ = some (.int .i64 (p : Int)) ∧ w'.cell? ⟨x.heap.size, 6, none⟩ = some (.int .i64 K[i].fl)) (by kernel_rfl) (HS.out _ (Below.refl _ _).drew) (fun hS => ?_)
  refine anyR 0 rfl ?_
  refine anyR 1 rfl ?_
  refine anyR 2 rfl ?_
  refine anyR 3 rfl ?_
  refine anyR 4 rfl ?_
  refine anyR 5 rfl ?_
  refine anyR 6 rfl ?_
  refine anyR 7 rfl ?_
  refine anyR 8 rfl ?_
  refine anyR 10 rfl ?_
  refine anyR 11 rfl ?_
  refine anyR 12 rfl ?_
  refine anyR 13 rfl ?_
  refine wpAnyH_ready (rs := [9]) (by kernel_rfl) (by simp) (AllReadyH.cons rfl (fun Kr hKr => ?_) AllReadyH.nil)
  go_simp
  refine hKr.out _ _ (by assumption) (fun _ => ?_)
  try simp only [nrm]
  refine wpAnyH_ready (rs := [14]) (by kernel_rfl) (by simp) (AllReadyH.cons rfl (fun Kr hKr => ?_) AllReadyH.nil)
  go_simp
  (refine (implQuit_yes sc HPB.out HWN.out HHS.out (HSM.out.here (Below.refl _ _).drew)).mono ?_; rintro e u5 ⟨va, nv, cv2, rfl, iv5, hb5⟩; have nz := iv_lenC iv5; subst nz; have iv5 : IV u5 y.heap.size (.slice va (delI L[p].2.2 id).length cv2) (delI L[p].2.2 id) := iv5; have hb5 := undrewE hb5; have hS5 := HS.out _ hb5; have z5 := hb5.size; have HE5 := eoN EY hb5; obtain ⟨e0, e1, ⟨pf0, pf1, pf2⟩, sb, sd, e2, pu, psm⟩ := HE5.out.plc hp)
  refine hKr.out _ _ (by assumption) (fun _ => ?_)
  try simp only [nrm]
  refine anyR 15 rfl ?_
  refine anyR 16 rfl ?_
  refine anyR 17 rfl ?_
  refine anyR 18 rfl ?_
  refine wpAnyH_ready (rs := [19]) (by kernel_rfl) (by simp) (AllReadyH.cons rfl (fun Kr hKr => ?_) AllReadyH.nil)
  go_simp
  obtain ⟨z, hzz⟩ : ∃ z, z = u5.setCells gl (p * 3) [.int .i64 L[p].1, .int .i64 (max 0 (L[p].2.1 - K[i].fl)), .slice va (delI L[p].2.2 id).length cv2] := ⟨_, rfl⟩
  have hz' : ((u5.setCell ⟨gl, p * 3, none⟩ (.int .i64 L[p].1)).setCell ⟨gl, p * 3 + 1, none⟩ (.int .i64 (max 0 (L[p].2.1 - K[i].fl)))).setCell ⟨gl, p * 3 + 2, none⟩ (.slice va (delI L[p].2.2 id).length cv2) = z := hzz.symm
  rw [hz']
  clear hz' e0 e1 pf0 pf1 pf2 e2 pu psm
  have ez := HE5.out.setP (hi' := u5.heap.size) (q := L[p].1) (d := max 0 (L[p].2.1 - K[i].fl)) hp (iv5.io.wider (by omega) (Nat.le_refl _)) (fun b hb => .inr (fun hn => by have := (iv5.io.el hb).1; have := HE5.out.bd hn; omega)) (by omega) (Nat.le_refl _)
  rw [← hzz] at ez
  have oz : Only gl u5 z := by rw [hzz]; exact onlyCells _ _ _
  clear hzz
  have LZ := (LY.next hb5).only oz (by omega)
  have XZ := (XY.next hb5).only oz (by omega)
  have CZ := (LC.next hb5).only oz (by omega)
  have zoz := oz.size
  refine hKr.out _ _ ⟨LZ.cell 4 _ rfl, CZ.cell 2 _ rfl, CZ.cell 6 _ rfl⟩ (fun hS => ?_)
  try simp only [nrm]
  refine wpAnyH_done (by kernel_rfl) ?_ _
  obtain ⟨j0, j1, j2, j3, j4, j5, j6⟩ := LZ.c7
  obtain ⟨r0, r1, r2, r3, r4, r5, r6⟩ := XZ.c7
  have rf := XZ.free
  go_wp2
  obtain ⟨u, hu', ou, U⟩ := st7 (b := w.heap.size + 1) XZ (.int .i64 now) (.slice bT T.length dT) (.slice bO O.length dO) (.slice bP P.length dP) (.slice (some ⟨gl, 0, none⟩) L.length dL) (.slice (some ⟨gk, 0, none⟩) (K.eraseIdx i).length dK) (.int .i64 nx)
  rw [hu']
  clear hu'
  have bwy : Below w.heap.size w y := (((below_two nb hb1).trans (bxy.mono (by omega))).trans (o2.below (by omega) (by omega))).trans (oy.below (by omega) (by omega))
  have bwz : Below w.heap.size w z := (bwy.trans (hb5.mono (by omega))).trans (oz.below (by omega) (by omega))
  have hnn : ¬ inE (.slice bT T.length dT) (.slice bO O.length dO) (.slice bP P.length dP) (.slice (some ⟨gl, 0, none⟩) (L.set p (L[p].1, max 0 (L[p].2.1 - K[i].fl), delI L[p].2.2 id)).length dL) (uL.set p (.slice va (delI L[p].2.2 id).length cv2)) (.slice (some ⟨gk, 0, none⟩) (K.eraseIdx i).length dK) ((GK.eraseIdx i).map (·.2)) (w.heap.size + 1) := fun hb => by have := ez.bd hb; omega
  have eu := ez.only ou hnn
  have zu := ou.size
  refine bodyPost_ret (results_two rfl _ _ _ [.int .i64 now, .slice bT T.length dT, .slice bO O.length dO, .slice bP P.length dP, .slice (some ⟨gl, 0, none⟩) L.length dL, .slice (some ⟨gk, 0, none⟩) (K.eraseIdx i).length dK, .int .i64 nx] rfl U.cell Tryz.underlying38 rfl (by kernel_rfl)) rfl ?_
  exact ⟨bT, dT, bO, dO, bP, dP, some ⟨gl, 0, none⟩, dL, some ⟨gk, 0, none⟩, dK, by rw [List.length_set]; rfl, eu.eng.wider (by omega) (by omega), bwz.trans (ou.below (by omega) bwz.size)⟩
theorem cls_small {T O P : List Q4} {L : List F8} {K : List Kn} (es : Small T O P L K) {i p : Nat} {id n : Int} (hp : p < L.length) : Small T O P (L.set p (clsP L p id n)) (K.eraseIdx i) := by
  have h1 := es.setL (i := p) (f := clsP L p id n) (by
    rw [clsP_at hp]
    have := es.lm L[p] (List.getElem_mem hp)
    have h2 : (delI L[p].2.2 id).length ≤ L[p].2.2.length := List.length_filter_le ..
    show (delI L[p].2.2 id).length ≤ 1000
    omega)
  refine ⟨h1.t, h1.o, h1.p, h1.l, h1.lm, ?_, fun c hc => h1.km c (List.mem_of_mem_eraseIdx hc)⟩
  have := h1.k
  rw [List.length_eraseIdx]
  split <;> omega
theorem closes14 (now nx : Int) (T O P : List Q4) (L : List F8) (K : List Kn) (id : Int) (mT : T.length ≤ 1048576) (mL : L.length ≤ 1048576) (sL : ∀ f ∈ L, f.2.2.length ≤ 1048576) (mK : K.length ≤ 1048576) (sK : ∀ c ∈ K, c.xs.length ≤ 1048576) : ∃ (YN YX : Int) (YT YO YP : List Q4) (YL : List F8) (YK : List Kn) (f : Int), Sizes YT YO YP YL YK ∧ (∀ (w : World) (aT aO aP aL aK : Option Addr) (cT cO cP cL cK : Nat), Quad w.heap.size w aT T → Quad w.heap.size w aO O → Quad w.heap.size w aP P → Fls w.heap.size w aL L → Kls w.heap.size w aK K → Calls Tryz.prog 18 #[engV now aT T.length cT aO O.length cO aP P.length cP aL L.length cL aK K.length cK nx, .int .i64 id] w (EgPost w YN YX YT YO YP YL YK (.int .i64 f))) ∧ (∀ (w : World) (aT aO aP aL aK : Option Addr) (cT cO cP cL cK : Nat), Quad w.heap.size w aT T → Quad w.heap.size w aO O → Quad w.heap.size w aP P → Fls w.heap.size w aL L → Kls w.heap.size w aK K → Calls Tryz.prog 19 #[engV now aT T.length cT aO O.length cO aP P.length cP aL L.length cL aK K.length cK nx, .int .i64 id] w (EgPost w YN YX YT YO YP YL YK (.int .i64 f))) := by
  cases h1 : engB now nx T O P L K
  · exact ⟨0, 0, [], [], [], [], [], 1, (small_nil).sizes, fun w aT aO aP aL aK cT cO cP cL cK hT hO hP hL hK => specCls_bad now nx cT cO cP cL cK id hT hO hP hL hK mT mL sL mK sK h1, fun w aT aO aP aL aK cT cO cP cL cK hT hO hP hL hK => implCls_bad now nx cT cO cP cL cK id hT hO hP hL hK mL sL mK sK h1⟩
  · have es := eg_small (eg_yes h1)
    by_cases hf : fK K id = -1
    · exact ⟨now, nx, T, O, P, L, K, 2, (es).sizes, fun w aT aO aP aL aK cT cO cP cL cK hT hO hP hL hK => specCls_id now nx cT cO cP cL cK id hT hO hP hL hK mT mL sL mK sK h1 hf, fun w aT aO aP aL aK cT cO cP cL cK hT hO hP hL hK => implCls_id now nx cT cO cP cL cK id hT hO hP hL hK mL sL mK sK h1 hf⟩
    · have hge : fK K id ≠ -1 := hf
      obtain ⟨i, hi, hfi, _⟩ := fK_some hge
      obtain ⟨p, hpl, hp⟩ := eg_place (eg_yes h1) hi
      exact ⟨now, nx, T, O, P, L.set p (clsP L p id K[i].fl), K.eraseIdx i, 0, (cls_small es hp).sizes, fun w aT aO aP aL aK cT cO cP cL cK hT hO hP hL hK => specCls_go now nx cT cO cP cL cK id hT hO hP hL hK mT mL sL mK sK h1 i hi hfi p hpl hp, fun w aT aO aP aL aK cT cO cP cL cK hT hO hP hL hK => implCls_go now nx cT cO cP cL cK id hT hO hP hL hK mL sL mK sK h1 i hi hfi p hpl hp⟩
end Go.Proofs.YtkohlmloobojfaaGreat
