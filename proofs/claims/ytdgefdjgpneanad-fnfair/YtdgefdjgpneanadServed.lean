/- What impl.served answers. -/
import Derived.Test.YtdgefdjgpneanadServeMath
import Derived.Test.YtdgefdjgpneanadImplFlow
import Derived.Test.YtdgefdjgpneanadFlwPut
namespace Go.Proofs.Ytdgefdjgpneanad
open Go.ChangeShapes Go.WideShapes Go.ChangeAt Go.RowKit Go.Conc
set_option maxRecDepth 100000
set_option linter.unusedVariables false
set_option linter.unusedSimpArgs false

theorem OnlyO.chan (W : World) (c cap : Nat) (buf : Array Value) (cl : Bool) (s r : Nat) (tm : Bool) : OnlyO (some c) W (W.setChan c cap buf cl s r tm) :=
  ⟨rfl, rfl, rfl, by rw [size_setChan]; exact Nat.le_refl _, fun k _ hn => by simp only [World.setChan]; rw [Array.getElem?_setIfInBounds_ne (fun e => hn (by rw [e]))]⟩
section
variable {P : Program}
theorem results_tri {fn : Func} {p u1 u2 : Tmp} {ty : TypeId} (h : fn.results = #[.cell p ty, .tmp u1, .tmp u2]) (tmps : Array Value) (w : World) (g : Nat) (cs : List Value) {d : TypeDesc}
    (hp : tmps.getD p undef = .pointer (some ⟨g, 0, none⟩)) (hc : ∀ j v, cs[j]? = some v → w.cell? ⟨g, j, none⟩ = some v)
    (hu : P.underlying ty = some d) (hd : (match d with | .struct _ | .array _ _ => true | _ => false) = true) (hi : (P.info? ty).map (·.size) = some cs.length) :
    (results fn tmps).run P w = .ok (.tuple #[.agg cs.toArray, tmps.getD u1 undef, tmps.getD u2 undef]) w := by
  have hp' : tmps[p]?.getD undef = .pointer (some ⟨g, 0, none⟩) := by simpa using hp
  have hl := loadVar_cells (P := P) w g 0 ty cs (fun j v hv => by rw [Nat.zero_add]; exact hc j v hv) hu hd hi
  simp [results, h, hp', asAddr, hl, Sem.run_bind, Result.andThen]
end
theorem put3_sv {w : World} {g : Nat} (a b c : Value) {z0 z1 z2 : Value} (h0 : w.cell? ⟨g, 0, none⟩ = some z0) (h1 : w.cell? ⟨g, 1, none⟩ = some z1) (h2 : w.cell? ⟨g, 2, none⟩ = some z2) :
    ∀ j v, [a, b, c][j]? = some v → (((w.setCell ⟨g, 0, none⟩ a).setCell ⟨g, 1, none⟩ b).setCell ⟨g, 2, none⟩ c).cell? ⟨g, j, none⟩ = some v := by
  have h := put3_same (o := 0) a b c h0 h1 h2
  exact cells_tri h.1 h.2.1 h.2.2
theorem undrewS {w w' : World} (h : Below w.drew.heap.size w.drew w') : Below w.heap.size w w' := (Below.refl _ _).drew.trans h
theorem OnlyI.new {lo hi b i : Nat} {w W : World} (h : OnlyI lo hi w W) (hb : w.heap.size ≤ b) (v : Value) : OnlyI lo hi w (W.setCell ⟨b, i, none⟩ v) :=
  ⟨h.os, h.tape, h.output, by simpa using h.size, fun k hk hn => (Below.heap_setCell _ _ _ _ (by show k ≠ b; omega)).trans (h.block k hk hn)⟩
theorem far3 {W : World} {b k o : Nat} {x y z : Value} (h : b ≠ k) : (((W.setCell ⟨b, 0, none⟩ x).setCell ⟨b, 1, none⟩ y).setCell ⟨b, 2, none⟩ z).cell? ⟨k, o, none⟩ = W.cell? ⟨k, o, none⟩ :=
  (set_far (by exact h)).trans ((set_far (by exact h)).trans (set_far (by exact h)))
/-- The turns that are still to come. -/
def restA (fs : List F8) (at' : Int) (fresh : Bool) (j : Nat) : Array Value := (((comeOf fs.length at' fresh fs.length).drop j).map turnA).toArray
theorem rest_step {fs : List F8} {at' : Int} {fresh : Bool} {j : Nat} (h : j < (comeOf fs.length at' fresh fs.length).length) : 0 < (restA fs at' fresh j).size ∧ (restA fs at' fresh j).getD 0 undef = turnA (comeOf fs.length at' fresh fs.length)[j] ∧ (restA fs at' fresh j).extract 1 (restA fs at' fresh j).size = restA fs at' fresh (j + 1) := by
  unfold restA
  rw [List.drop_eq_getElem_cons h]
  generalize (comeOf fs.length at' fresh fs.length)[j] = x
  generalize (comeOf fs.length at' fresh fs.length).drop (j + 1) = R
  refine ⟨by simp, rfl, ?_⟩
  simp
  exact List.take_of_length_le (by simp)
theorem rest_end {fs : List F8} {at' : Int} {fresh : Bool} {j : Nat} (h : (comeOf fs.length at' fresh fs.length).length ≤ j) : restA fs at' fresh j = #[] := by
  unfold restA
  rw [List.drop_eq_nil_of_le h]
  rfl
/-- While the turns come. -/
structure Sv (w : World) (g : Nat) (fs : List F8) (cap : Nat) (at' : Int) (fresh : Bool) (ch j : Nat) (W : World) : Prop where
  kept : Kept w [(w.heap.size, 0, .slice (some ⟨g, 0, none⟩) fs.length cap), (w.heap.size, 1, .int .i64 at'), (w.heap.size, 2, .bool fresh), (w.heap.size + 1, 0, .slice none 0 0), (w.heap.size + 1, 1, .int .i64 0), (w.heap.size + 1, 2, .bool false)] [w.heap.size + 1] W
  ch0 : w.heap.size + 2 ≤ ch
  ch1 : ch < W.heap.size
  chan : W.heap[ch]? = some (.chan (fs.length + 1) (restA fs at' fresh j) true (fs.length + 1) j false)
  fnd : findT fs (comeOf fs.length at' fresh fs.length) = findT fs ((comeOf fs.length at' fresh fs.length).drop j)
def SvI (w : World) (g : Nat) (fs : List F8) (cap : Nat) (at' : Int) (fresh : Bool) (ch : Nat) (m : Nat) (ac : Act) (W : World) : Prop :=
  ∃ (j : Nat) (u5 u6 u7 u8 u10 u11 u12 u13 u14 u15 u16 u17 u18 u19 u20 u21 u22 u23 u24 u25 u26 u27 u28 u29 u30 u31 u32 u33 u34 u35 u36 u37 u38 u39 u40 u41 u42 u43 u44 u45 u46 u47 u48 u49 u50 u51 u52 u53 u54 : Value), m = fs.length + 1 - j ∧ j ≤ fs.length + 1 ∧ ac = { tmps := #[turnV (some ⟨g, 0, none⟩) fs.length cap at' fresh, .pointer (some ⟨w.heap.size, 0, none⟩), .pointer (some ⟨w.heap.size + 1, 0, none⟩), .int .i64 0, .int .i64 0, u5, u6, u7, u8, .chan (some ch), u10, u11, u12, u13, u14, u15, u16, u17, u18, u19, u20, u21, u22, u23, u24, u25, u26, u27, u28, u29, u30, u31, u32, u33, u34, u35, u36, u37, u38, u39, u40, u41, u42, u43, u44, u45, u46, u47, u48, u49, u50, u51, u52, u53, u54], defers := [] } ∧ Sv w g fs cap at' fresh ch j W
/-- What is answered: the flows in their place, and two numbers. -/
def SvPost (w : World) (lo hi g : Nat) (fs : List F8) (cap : Nat) (at' : Int) (fresh : Bool) (e : Ending) (w' : World) : Prop :=
  ∃ vs', e = .returned (.tuple #[turnV (some ⟨g, 0, none⟩) fs.length cap (srvAt fs at' fresh) (srvFr fs at' fresh), .int .i64 (srvI fs at' fresh), .int .i64 (srvN fs at' fresh)]) ∧ FO w' lo hi g fs.length vs' (srvFs fs at' fresh) ∧ OnlyI lo hi w w'
set_option maxHeartbeats 8000000 in
theorem served_any {w : World} {lo hi g : Nat} {vs : List Value} {fs : List F8} (cap : Nat) (at' : Int) (fresh : Bool) (f : FO w lo hi g fs.length vs fs) (hok : TurnsOk fs at' fresh) :
    Calls Try.prog 80 #[turnV (some ⟨g, 0, none⟩) fs.length cap at' fresh] w (SvPost w lo hi g fs cap at' fresh) := by
  have hl1 := hok.l0
  have hl30 := hok.l1
  have ha0 := hok.a0
  have ha1 := hok.a1
  have HOK : Hid (TurnsOk fs at' fresh) := hok
  have HFO : Hid (FO w lo hi g fs.length vs fs) := f
  have hcl := come_length fs.length at' fresh fs.length
  clear hok f
  obtain ⟨v, hv⟩ : ∃ v, v = (w.alloc (.cells #[.slice (some ⟨g, 0, none⟩) fs.length cap, .int .i64 at', .bool fresh] 48)).alloc (.cells #[.slice none 0 0, .int .i64 0, .bool false] 48) := ⟨_, rfl⟩
  have KV : Hid (Kept w [(w.heap.size, 0, .slice (some ⟨g, 0, none⟩) fs.length cap), (w.heap.size, 1, .int .i64 at'), (w.heap.size, 2, .bool fresh), (w.heap.size + 1, 0, .slice none 0 0), (w.heap.size + 1, 1, .int .i64 0), (w.heap.size + 1, 2, .bool false)] [w.heap.size + 1] v) := by
    rw [hv]
    refine ⟨⟨⟨by simp <;> omega, by go_simp⟩, ⟨by simp <;> omega, by go_simp⟩, ⟨by simp <;> omega, by go_simp⟩, ⟨by simp, by go_simp⟩, ⟨by simp, by go_simp⟩, ⟨by simp, by go_simp⟩, trivial⟩, fun b hb => ?_, by go_grown⟩
    simp only [List.mem_cons, List.not_mem_nil, or_false] at hb
    subst hb
    exact ⟨by simp, fun o => by go_simp⟩
  have hvz : v.heap.size ≤ w.heap.size + 2 ∧ w.heap.size + 2 ≤ v.heap.size := by rw [hv]; simp
  refine calls_of_wpB Try.func80 rfl (fun b hk => ?_)
  simp only [Try.ntmps80, List.size_toArray, List.length_cons, List.length_nil, Nat.reduceAdd, Nat.reduceSub, Array.replicate_succ, Array.replicate_zero, List.push_toArray, List.append_toArray, List.nil_append, List.cons_append]
  refine wpB_seq_k fun K1 g1 => wpB_of ?_
  go_wp2
  rw [← hv]
  clear hv
  have ⟨⟨z0, k0⟩, ⟨z1, k1⟩, ⟨z2, k2⟩, _⟩ := KV.out.cells
  refine wpB_seq_k fun K2 g2 => ?_
  refine wpB_seq_k fun K3 g3 => wpB_of ?_
  go_wp2_with (first | (go_at_call 122; refine (coming_any cap at' fresh hl1 hl30 ha0 ha1).mono ?_; rintro e w1 ⟨ch, rfl, hc0, hc1, hch, hb1⟩))
  have S0 : Sv w g fs cap at' fresh ch 0 w1 := ⟨KV.out.next hb1, by omega, hc1, by rw [hch]; rfl, by rw [List.drop_zero]⟩
  clear z0 z1 z2 k0 k1 k2 KV hch
  refine wpB_block ?_
  refine wpB_loop (SvI w g fs cap at' fresh ch) ?_ (n := fs.length + 1) ?_
  rotate_left 1
  · exact ⟨0, _, _, _, _, _, _, _, _, _, _, _, _, _, _, _, _, _, _, _, _, _, _, _, _, _, _, _, _, _, _, _, _, _, _, _, _, _, _, _, _, _, _, _, _, _, _, _, _, _, by omega, by omega, rfl, S0⟩
  · clear S0
    rintro mz ac W ⟨j, u5, u6, u7, u8, u10, u11, u12, u13, u14, u15, u16, u17, u18, u19, u20, u21, u22, u23, u24, u25, u26, u27, u28, u29, u30, u31, u32, u33, u34, u35, u36, u37, u38, u39, u40, u41, u42, u43, u44, u45, u46, u47, u48, u49, u50, u51, u52, u53, u54, hmz, hj, rfl, sv⟩
    have SV : Hid (Sv w g fs cap at' fresh ch j W) := sv
    clear sv
    refine wpB_seq_k fun K4 g4 => wpB_region ?_
    show wpL _ _ _ _ [0, 1] _ _
    by_cases hlt : j < fs.length + 1
    · have hjl : j < (comeOf fs.length at' fresh fs.length).length := by rw [hcl]; exact hlt
      obtain ⟨r0, r1, r2⟩ := rest_step (fs := fs) (at' := at') (fresh := fresh) hjl
      refine wpL_recv (c := ch) (cap := fs.length + 1) (buf := restA fs at' fresh j) (closed := true) (s := fs.length + 1) (r := j) (tm := false) (z := .agg #[.int .i64 0, .bool false]) true hk rfl rfl (by simp [go_sem, execOp, rcase, Act.eval]) SV.out.chan r0 ?_
      rw [r1, r2]
      simp only [got, if_true]
      obtain ⟨x, hx⟩ : ∃ x, (comeOf fs.length at' fresh fs.length)[j] = x := ⟨_, rfl⟩
      have hin := come_in (fresh := fresh) hl1 ha0 ha1 hjl
      have hfd : findT fs (comeOf fs.length at' fresh fs.length) = findT fs (x :: (comeOf fs.length at' fresh fs.length).drop (j + 1)) := by rw [SV.out.fnd, List.drop_eq_getElem_cons hjl, hx]
      rw [hx] at hin ⊢
      obtain ⟨kk, fr⟩ := x
      obtain ⟨m, rfl⟩ : ∃ m : Nat, kk = m := ⟨kk.toNat, by have := hin.1; omega⟩
      have hm : m < fs.length := by have := hin.2; simp only at this; omega
      have hm' : (m : Int) < (fs.length : Int) := by omega
      have HFD : Hid (findT fs (comeOf fs.length at' fresh fs.length) = findT fs (((m : Int), fr) :: (comeOf fs.length at' fresh fs.length).drop (j + 1))) := hfd
      clear hx hin hfd r0 r1 r2
      simp only [turnA]
      try simp only [Act.put, List.setIfInBounds_toArray, List.set_cons_zero, List.set_cons_succ, List.getElem_toArray, List.getElem_cons_succ, List.getElem_cons_zero]
      refine wpL_still (i := 1) (v := ?_) rfl rfl ?_ ?_
      rotate_left 1
      · (go_simp; with_reducible rfl)
      try simp only [Act.put, List.setIfInBounds_toArray, List.set_cons_zero, List.set_cons_succ, List.getElem_toArray, List.getElem_cons_succ, List.getElem_cons_zero]
      refine wpL_nil ?_
      refine g4 _ _ (wpB_of ?_)
      clear g4
      obtain ⟨W1, hW1⟩ : ∃ W1, W1 = W.setChan ch (fs.length + 1) (restA fs at' fresh (j + 1)) true (fs.length + 1) (j + 1) false := ⟨_, rfl⟩
      rw [← hW1]
      have hc0 := SV.out.ch0
      have K1 : Hid (Kept w [(w.heap.size, 0, .slice (some ⟨g, 0, none⟩) fs.length cap), (w.heap.size, 1, .int .i64 at'), (w.heap.size, 2, .bool fresh), (w.heap.size + 1, 0, .slice none 0 0), (w.heap.size + 1, 1, .int .i64 0), (w.heap.size + 1, 2, .bool false)] [w.heap.size + 1] W1) := by
        rw [hW1]
        refine SV.out.kept.onlyO (OnlyO.chan _ _ _ _ _ _ _ _) (fun i e => by have e := Option.some.inj e; omega) (fun c hc e => ?_) (fun b hb e => ?_)
        · have e := Option.some.inj e
          simp only [List.mem_cons, List.not_mem_nil, or_false] at hc
          rcases hc with rfl | rfl | rfl | rfl | rfl | rfl <;> simp only at e <;> omega
        · have e := Option.some.inj e
          simp only [List.mem_cons, List.not_mem_nil, or_false] at hb
          omega
      have hc1 : ch < W1.heap.size := by rw [hW1, size_setChan]; exact SV.out.ch1
      have HCH : Hid (W1.heap[ch]? = some (.chan (fs.length + 1) (restA fs at' fresh (j + 1)) true (fs.length + 1) (j + 1) false)) := by rw [hW1]; exact heap_setChan _ _ _ _ _ _ _ _ SV.out.ch1
      clear hW1 SV
      have HN : Hid (∀ (W' : World), Below W1.heap.size W1 W' → tryAt fs ((m : Int), fr) = none → Sv w g fs cap at' fresh ch (j + 1) W') := fun W' hb ht => ⟨K1.out.next hb, hc0, Nat.lt_of_lt_of_le hc1 hb.size, (hb.block ch hc1).trans HCH.out, by rw [HFD.out, find_no ht]⟩
      have FW : Hid (FO W1 lo hi g fs.length vs fs) := HFO.out.same K1.out.hb.size (fun b h1 h2 => K1.out.hb.block b (Nat.lt_of_lt_of_le h2 HFO.out.top))
      have hfo := FW.out
      have hvm : m < vs.length := by rw [hfo.len]; exact hm
      obtain ⟨d0, d1, d2⟩ := hfo.got m hm hvm
      obtain ⟨sa, sc, e2, hsc, hio⟩ := hfo.own m hm hvm
      rw [e2] at d2
      have hfl := HOK.out.flow m hm
      have htry : tryAt fs ((m : Int), fr) = tryF fs[m] fr := by unfold tryAt; rw [Int.toNat_natCast, List.getElem?_eq_getElem hm]
      obtain ⟨y, hy⟩ : ∃ y, fs[m] = y := ⟨_, rfl⟩
      rw [hy] at d0 d1 d2 hio hsc hfl htry
      have HY : Hid (fs[m] = y) := hy
      have HTR : Hid (tryAt fs ((m : Int), fr) = tryF y fr) := htry
      have HFL : Hid (FlowOk y) := hfl
      have hgl : g < W1.heap.size := by have := hfo.g1; have := hfo.top; omega
      clear hy htry hfo hfl
      obtain ⟨q, d, xs⟩ := y
      simp only at d0 d1 d2 hio hsc
      have ⟨⟨z0, k0⟩, ⟨z1, k1⟩, ⟨z2, k2⟩, ⟨z3, k3⟩, ⟨z4, k4⟩, ⟨z5, k5⟩, _⟩ := K1.out.cells
      cases xs with
      | nil =>
        rw [List.length_nil] at d2
        have HNN := HN.out (W1.alloc (.cells #[.int .i64 (m : Int), .bool fr] 135)) (newB _ _) (by rw [HTR.out]; exact try_nil fr rfl)
        go_wp2
        exact ⟨fs.length + 1 - (j + 1), by omega, j + 1, _, _, _, _, _, _, _, _, _, _, _, _, _, _, _, _, _, _, _, _, _, _, _, _, _, _, _, _, _, _, _, _, _, _, _, _, _, _, _, _, _, _, _, _, _, _, _, _, _, rfl, by omega, rfl, HNN⟩
      | cons s r =>
        rcases hio with hio | ⟨gs, off, rfl, p0, p1, p2, hcs⟩
        · cases hio
        have hcs0 : W1.cell? ⟨gs, off, none⟩ = some (.int .i64 s) := by have := (hcs 0 (by simp)).1; simpa using this
        rw [List.length_cons] at d2 hsc
        have HVM : Hid (vs[m] = .slice (some ⟨gs, off, none⟩) (s :: r).length sc) := by have e := e2; rw [HY.out] at e; exact e
        obtain ⟨sc, rfl⟩ : ∃ c, sc = c + 1 := ⟨sc - 1, by omega⟩
        have hsg := sg_at HFL.out.seg 0 (by simp)
        simp only [List.getElem_cons_zero] at hsg
        have hq0 : 1500 ≤ q := HFL.out.q0
        have hq1 : q ≤ 1000000000 := HFL.out.q1
        have hd0 : 0 ≤ d := HFL.out.d0
        have hd1 : d ≤ q + 1500 := HFL.out.d1
        have hrl : r.length + 1 ≤ 100 := by have := HFL.out.len; simpa using this
        have hrl' : ((r.length : Int) + 1 == 0) = false := by rw [beq_eq_false_iff_ne]; omega
        obtain ⟨D, hD⟩ : ∃ D, dueOf q d fr = D := ⟨_, rfl⟩
        have HD : Hid (dueOf q d fr = D) := hD
        have HDI : Hid ((if fr = true then d + q else d) = D) := hD
        have hDb : D ≤ 2000003000 := by rw [← hD]; unfold dueOf; split <;> omega
        have hs0 := hsg.1
        have hs1 := hsg.2
        have HCS : Hid (∀ i (h : i < (s :: r).length), W1.cell? ⟨gs, off + i, none⟩ = some (.int .i64 (s :: r)[i]) ∧ W1.frozen? ⟨gs, off + i, none⟩ = false) := hcs
        clear hD hsg hcs
        go_upto_region 4 with (fail)
        obtain ⟨v5, hv5⟩ : ∃ v, v = W1.alloc (.cells #[.int .i64 (m : Int), .bool fr] 135) := ⟨_, rfl⟩
        rw [← hv5]
        have hb15 : Below W1.heap.size W1 v5 := by rw [hv5]; exact newB _ _
        have cA0 : v5.cell? ⟨W1.heap.size, 0, none⟩ = some (.int .i64 (m : Int)) := by rw [hv5]; go_simp
        have cA1 : v5.cell? ⟨W1.heap.size, 1, none⟩ = some (.bool fr) := by rw [hv5]; go_simp
        have zA : W1.heap.size < v5.heap.size := by rw [hv5]; simp
        clear hv5
        obtain ⟨b5, hb5e⟩ : ∃ b, b = W1.heap.size := ⟨_, rfl⟩
        rw [← hb5e] at cA0 cA1 ⊢
        have yb5 : b5 < v5.heap.size := by omega
        have lb5 : W1.heap.size ≤ b5 ∧ b5 ≤ W1.heap.size := by omega
        clear hb5e
        have l0 := (hb15.cell (p := ⟨w.heap.size, 0, none⟩) z0).trans k0
        have y0 := (hb15.cell (p := ⟨g, m * 3, none⟩) hgl).trans d0
        have y1 := (hb15.cell (p := ⟨g, m * 3 + 1, none⟩) hgl).trans d1
        have y2 := (hb15.cell (p := ⟨g, m * 3 + 2, none⟩) hgl).trans d2
        have hgs5 : gs < v5.heap.size := by omega
        have hcs5 := (hb15.cell (p := ⟨gs, off, none⟩) p2).trans hcs0
        have hgl5 : g < v5.heap.size := by omega
        have hw5 : w.heap.size < v5.heap.size := by omega
        have HD0 : Hid (W1.cell? ⟨g, m * 3, none⟩ = some (.int .i64 q)) := d0
        have HD1 : Hid (W1.cell? ⟨g, m * 3 + 1, none⟩ = some (.int .i64 d)) := d1
        have HD2 : Hid (W1.cell? ⟨g, m * 3 + 2, none⟩ = some (.slice (some ⟨gs, off, none⟩) (r.length + 1) (sc + 1))) := d2
        clear k0 k1 k2 k3 k4 k5 d0 d1 d2 hcs0
        go_upto_region 5 with (fail)
        have HS : Hid (∀ w', Below v5.heap.size v5 w' → (fun w' => w'.cell? ⟨w.heap.size, 0, none⟩ = some (.slice (some ⟨g, 0, none⟩) fs.length cap) ∧ w'.cell? ⟨b5, 0, none⟩ = some (.int .i64 (m : Int)) ∧ w'.cell? ⟨b5, 1, none⟩ = some (.bool fr) ∧ w'.cell? ⟨g, m * 3, none⟩ = some (.int .i64 q) ∧ w'.cell? ⟨g, m * 3 + 1, none⟩ = some (.int .i64 d) ∧ w'.cell? ⟨g, m * 3 + 2, none⟩ = some (.slice (some ⟨gs, off, none⟩) (r.length + 1) (sc + 1))) w') := fun w' h => ⟨(h.cell (p := ⟨w.heap.size, 0, none⟩) hw5).trans l0, (h.cell (p := ⟨b5, 0, none⟩) yb5).trans cA0, (h.cell (p := ⟨b5, 1, none⟩) yb5).trans cA1, (h.cell (p := ⟨g, m * 3, none⟩) hgl5).trans y0, (h.cell (p := ⟨g, m * 3 + 1, none⟩) hgl5).trans y1, (h.cell (p := ⟨g, m * 3 + 2, none⟩) hgl5).trans y2⟩
        refine region_late (S := fun w' => w'.cell? ⟨w.heap.size, 0, none⟩ = some (.slice (some ⟨g, 0, none⟩) fs.length cap) ∧ w'.cell? ⟨b5, 0, none⟩ = some (.int .i64 (m : Int)) ∧ w'.cell? ⟨b5, 1, none⟩ = some (.bool fr) ∧ w'.cell? ⟨g, m * 3, none⟩ = some (.int .i64 q) ∧ w'.cell? ⟨g, m * 3 + 1, none⟩ = some (.int .i64 d) ∧ w'.cell? ⟨g, m * 3 + 2, none⟩ = some (.slice (some ⟨gs, off, none⟩) (r.length + 1) (sc + 1))) 10 (by kernel_rfl) (HS.out _ (Below.refl _ _).drew) (fun hS => ?_)
        refine late_take (i := 0) (v := ?_) rfl (by kernel_rfl) (by kernel_rfl) (by kernel_rfl) (by kernel_rfl) (fun _ _ _ h => h) (Or.inl ⟨by rfl, ?_⟩) (by assumption) ?_
        rotate_left 1
        · (intro w' hSw; (try dsimp only at hSw); go_simp; try with_reducible rfl)
        try simp only [Act.put, List.setIfInBounds_toArray, List.set_cons_zero, List.set_cons_succ, List.getElem_toArray, List.getElem_cons_succ, List.getElem_cons_zero]
        refine late_take (i := 1) (v := ?_) rfl (by kernel_rfl) (by kernel_rfl) (by kernel_rfl) (by kernel_rfl) (fun _ _ _ h => h) (Or.inl ⟨by rfl, ?_⟩) (by assumption) ?_
        rotate_left 1
        · (intro w' hSw; (try dsimp only at hSw); go_simp; try with_reducible rfl)
        try simp only [Act.put, List.setIfInBounds_toArray, List.set_cons_zero, List.set_cons_succ, List.getElem_toArray, List.getElem_cons_succ, List.getElem_cons_zero]
        refine late_take (i := 2) (v := ?_) rfl (by kernel_rfl) (by kernel_rfl) (by kernel_rfl) (by kernel_rfl) (fun _ _ _ h => h) (Or.inl ⟨by rfl, ?_⟩) (by assumption) ?_
        rotate_left 1
        · (intro w' hSw; (try dsimp only at hSw); go_simp; try with_reducible rfl)
        try simp only [Act.put, List.setIfInBounds_toArray, List.set_cons_zero, List.set_cons_succ, List.getElem_toArray, List.getElem_cons_succ, List.getElem_cons_zero]
        refine late_take (i := 3) (v := ?_) rfl (by kernel_rfl) (by kernel_rfl) (by kernel_rfl) (by kernel_rfl) (fun _ _ _ h => h) (Or.inl ⟨by rfl, ?_⟩) (by assumption) ?_
        rotate_left 1
        · (intro w' hSw; (try dsimp only at hSw); go_simp; try with_reducible rfl)
        try simp only [Act.put, List.setIfInBounds_toArray, List.set_cons_zero, List.set_cons_succ, List.getElem_toArray, List.getElem_cons_succ, List.getElem_cons_zero]
        refine late_take (i := 4) (v := ?_) rfl (by kernel_rfl) (by kernel_rfl) (by kernel_rfl) (by kernel_rfl) (fun _ _ _ h => h) (Or.inl ⟨by rfl, ?_⟩) (by assumption) ?_
        rotate_left 1
        · (intro w' hSw; (try dsimp only at hSw); go_simp; try with_reducible rfl)
        try simp only [Act.put, List.setIfInBounds_toArray, List.set_cons_zero, List.set_cons_succ, List.getElem_toArray, List.getElem_cons_succ, List.getElem_cons_zero]
        refine late_take (i := 5) (v := ?_) rfl (by kernel_rfl) (by kernel_rfl) (by kernel_rfl) (by kernel_rfl) (fun _ _ _ h => h) (Or.inl ⟨by rfl, ?_⟩) (by assumption) ?_
        rotate_left 1
        · (intro w' hSw; (try dsimp only at hSw); go_simp; try with_reducible rfl)
        try simp only [Act.put, List.setIfInBounds_toArray, List.set_cons_zero, List.set_cons_succ, List.getElem_toArray, List.getElem_cons_succ, List.getElem_cons_zero]
        refine late_take (i := 6) (v := ?_) rfl (by kernel_rfl) (by kernel_rfl) (by kernel_rfl) (by kernel_rfl) (fun _ _ _ h => h) (Or.inl ⟨by rfl, ?_⟩) (by assumption) ?_
        rotate_left 1
        · (intro w' hSw; (try dsimp only at hSw); go_simp; try with_reducible rfl)
        try simp only [Act.put, List.setIfInBounds_toArray, List.set_cons_zero, List.set_cons_succ, List.getElem_toArray, List.getElem_cons_succ, List.getElem_cons_zero]
        refine late_take (i := 7) (v := ?_) rfl (by kernel_rfl) (by kernel_rfl) (by kernel_rfl) (by kernel_rfl) (fun _ _ _ h => h) (Or.inl ⟨by rfl, ?_⟩) (by assumption) ?_
        rotate_left 1
        · (intro w' hSw; (try dsimp only at hSw); go_simp; try with_reducible rfl)
        try simp only [Act.put, List.setIfInBounds_toArray, List.set_cons_zero, List.set_cons_succ, List.getElem_toArray, List.getElem_cons_succ, List.getElem_cons_zero]
        refine late_two (i := 8) (j := 9) (by kernel_rfl) rfl rfl (fun K hK => ?_) (fun K hK => ?_)
        · go_simp
          (refine (inTurn_any q d _ _ _ fr _ hq0 hq1 hd0 hd1).mono ?_; rintro e w6 ⟨rfl, hb6⟩; rw [HDI.out]; have hb6 := undrewS hb6; have hS6 := HS.out _ hb6)
          refine hK.out _ _ (by assumption) (fun _ => ?_)
          try simp only [Act.put, List.setIfInBounds_toArray, List.set_cons_zero, List.set_cons_succ, List.getElem_toArray, List.getElem_cons_succ, List.getElem_cons_zero]
          refine late_one (i := 9) (by kernel_rfl) rfl (fun K hK => ?_)
          go_simp
          refine hK.out _ _ (HS.out _ (below_step hb6 (newB _ _))) (fun hS => ?_)
          try simp only [Act.put, List.setIfInBounds_toArray, List.set_cons_zero, List.set_cons_succ, List.getElem_toArray, List.getElem_cons_succ, List.getElem_cons_zero]
          refine late_last (by kernel_rfl) rfl (by kernel_rfl) (fun K hK => ?_)
          go_simp
          refine hK.out _ _ ?_
          try simp only [Act.put, List.setIfInBounds_toArray, List.set_cons_zero, List.set_cons_succ, List.getElem_toArray, List.getElem_cons_succ, List.getElem_cons_zero]
          obtain ⟨W6, hW6⟩ : ∃ W6, W6 = w6.alloc (.cells #[.int .i64 q, .int .i64 D, .slice (some ⟨gs, off, none⟩) (r.length + 1) (sc + 1)] 61) := ⟨_, rfl⟩
          rw [← hW6]
          have hb56 : Below v5.heap.size v5 W6 := by rw [hW6]; exact below_step hb6 (newB _ _)
          have e0 : W6.cell? ⟨w6.heap.size, 0, none⟩ = some (.int .i64 q) := by rw [hW6]; go_simp
          have e1 : W6.cell? ⟨w6.heap.size, 1, none⟩ = some (.int .i64 D) := by rw [hW6]; go_simp
          have e2 : W6.cell? ⟨w6.heap.size, 2, none⟩ = some (.slice (some ⟨gs, off, none⟩) (r.length + 1) (sc + 1)) := by rw [hW6]; go_simp
          have e3 : w6.heap.size < W6.heap.size := by rw [hW6]; simp
          have e4 : v5.heap.size ≤ w6.heap.size := hb6.size
          clear hW6
          obtain ⟨b6, hb6e⟩ : ∃ b, b = w6.heap.size := ⟨_, rfl⟩
          rw [← hb6e] at e0 e1 e2 e3 e4 ⊢
          clear hb6e
          have hcs6 : W6.cell? ⟨gs, off, none⟩ = some (.int .i64 s) := (hb56.cell (p := ⟨gs, off, none⟩) hgs5).trans hcs5
          have f0 : W6.cell? ⟨b5, 0, none⟩ = some (.int .i64 (m : Int)) := (hb56.cell (p := ⟨b5, 0, none⟩) yb5).trans cA0
          have hb16 := below_step hb15 hb56
          by_cases hle : s ≤ D
          · have hdt : decide (s ≤ D) = true := decide_eq_true hle
            go_upto_region 8 with (fail)
            have l06 := (hb56.cell (p := ⟨w.heap.size, 0, none⟩) hw5).trans l0
            have hgs6 : gs < W6.heap.size := Nat.lt_of_lt_of_le hgs5 hb56.size
            have hz56 := hb56.size
            obtain ⟨R, hRR⟩ : ∃ R : Int, (if r.length = 0 then 0 else D - s) = R := ⟨_, rfl⟩
            have HRR : Hid ((if r.length = 0 then 0 else D - s) = R) := hRR
            clear hRR
            have HS8 : Hid (∀ w', Below W6.heap.size W6 w' → (fun w' => w'.cell? ⟨w.heap.size, 0, none⟩ = some (.slice (some ⟨g, 0, none⟩) fs.length cap) ∧ w'.cell? ⟨b5, 0, none⟩ = some (.int .i64 (m : Int)) ∧ w'.cell? ⟨b6, 0, none⟩ = some (.int .i64 q) ∧ w'.cell? ⟨b6, 1, none⟩ = some (.int .i64 D) ∧ w'.cell? ⟨b6, 2, none⟩ = some (.slice (some ⟨gs, off, none⟩) (r.length + 1) (sc + 1))) w') := fun w' h => ⟨(h.cell (p := ⟨w.heap.size, 0, none⟩) (by show w.heap.size < W6.heap.size; omega)).trans l06, (h.cell (p := ⟨b5, 0, none⟩) (by show b5 < W6.heap.size; omega)).trans f0, (h.cell (p := ⟨b6, 0, none⟩) e3).trans e0, (h.cell (p := ⟨b6, 1, none⟩) e3).trans e1, (h.cell (p := ⟨b6, 2, none⟩) e3).trans e2⟩
            refine region_late (S := fun w' => w'.cell? ⟨w.heap.size, 0, none⟩ = some (.slice (some ⟨g, 0, none⟩) fs.length cap) ∧ w'.cell? ⟨b5, 0, none⟩ = some (.int .i64 (m : Int)) ∧ w'.cell? ⟨b6, 0, none⟩ = some (.int .i64 q) ∧ w'.cell? ⟨b6, 1, none⟩ = some (.int .i64 D) ∧ w'.cell? ⟨b6, 2, none⟩ = some (.slice (some ⟨gs, off, none⟩) (r.length + 1) (sc + 1))) 7 (by kernel_rfl) (HS8.out _ (Below.refl _ _).drew) (fun hS => ?_)
            refine late_take (i := 0) (v := ?_) rfl (by kernel_rfl) (by kernel_rfl) (by kernel_rfl) (by kernel_rfl) (fun _ _ _ h => h) (Or.inl ⟨by rfl, ?_⟩) (by assumption) ?_
            rotate_left 1
            · (intro w' hSw; (try dsimp only at hSw); go_simp; try with_reducible rfl)
            try simp only [Act.put, List.setIfInBounds_toArray, List.set_cons_zero, List.set_cons_succ, List.getElem_toArray, List.getElem_cons_succ, List.getElem_cons_zero]
            refine late_take (i := 1) (v := ?_) rfl (by kernel_rfl) (by kernel_rfl) (by kernel_rfl) (by kernel_rfl) (fun _ _ _ h => h) (Or.inl ⟨by rfl, ?_⟩) (by assumption) ?_
            rotate_left 1
            · (intro w' hSw; (try dsimp only at hSw); go_simp; try with_reducible rfl)
            try simp only [Act.put, List.setIfInBounds_toArray, List.set_cons_zero, List.set_cons_succ, List.getElem_toArray, List.getElem_cons_succ, List.getElem_cons_zero]
            refine late_take (i := 2) (v := ?_) rfl (by kernel_rfl) (by kernel_rfl) (by kernel_rfl) (by kernel_rfl) (fun _ _ _ h => h) (Or.inl ⟨by rfl, ?_⟩) (by assumption) ?_
            rotate_left 1
            · (intro w' hSw; (try dsimp only at hSw); go_simp; try with_reducible rfl)
            try simp only [Act.put, List.setIfInBounds_toArray, List.set_cons_zero, List.set_cons_succ, List.getElem_toArray, List.getElem_cons_succ, List.getElem_cons_zero]
            refine late_take (i := 3) (v := ?_) rfl (by kernel_rfl) (by kernel_rfl) (by kernel_rfl) (by kernel_rfl) (fun _ _ _ h => h) (Or.inl ⟨by rfl, ?_⟩) (by assumption) ?_
            rotate_left 1
            · (intro w' hSw; (try dsimp only at hSw); go_simp; try with_reducible rfl)
            try simp only [Act.put, List.setIfInBounds_toArray, List.set_cons_zero, List.set_cons_succ, List.getElem_toArray, List.getElem_cons_succ, List.getElem_cons_zero]
            refine late_take (i := 4) (v := ?_) rfl (by kernel_rfl) (by kernel_rfl) (by kernel_rfl) (by kernel_rfl) (fun _ _ _ h => h) (Or.inl ⟨by rfl, ?_⟩) (by assumption) ?_
            rotate_left 1
            · (intro w' hSw; (try dsimp only at hSw); go_simp; try with_reducible rfl)
            try simp only [Act.put, List.setIfInBounds_toArray, List.set_cons_zero, List.set_cons_succ, List.getElem_toArray, List.getElem_cons_succ, List.getElem_cons_zero]
            refine late_one (i := 5) (by kernel_rfl) rfl (fun K hK => ?_)
            go_simp
            (refine (withoutFirst_any q D s (((Below.refl W6.heap.size W6).drew.cell (p := ⟨gs, off, none⟩) hgs6).trans hcs6) hgs6 (by omega) hs0 hle hDb (by omega)).mono ?_; rintro e w8 ⟨u8, c8, rfl, hc8, hu8, hb8⟩; rw [HRR.out]; have hb8 := undrewS hb8; have hS8 := HS8.out _ hb8; have hb18 := below_step hb16 hb8; have F8 : Hid (FO w8 lo hi g fs.length vs fs) := FW.out.next hb18; have hz8 := hb18.size; have o0 : w8.cell? ⟨g, m * 3, none⟩ = some (.int .i64 q) := (hb18.cell (p := ⟨g, m * 3, none⟩) hgl).trans HD0.out; have o1 : w8.cell? ⟨g, m * 3 + 1, none⟩ = some (.int .i64 d) := (hb18.cell (p := ⟨g, m * 3 + 1, none⟩) hgl).trans HD1.out; have o2 : w8.cell? ⟨g, m * 3 + 2, none⟩ = some (.slice (some ⟨gs, off, none⟩) (r.length + 1) (sc + 1)) := (hb18.cell (p := ⟨g, m * 3 + 2, none⟩) hgl).trans HD2.out; have of0 := (F8.out.any (m * 3) (by omega)).2; have of1 := (F8.out.any (m * 3 + 1) (by omega)).2; have of2 := (F8.out.any (m * 3 + 2) (by omega)).2)
            refine hK.out _ _ (by assumption) (fun _ => ?_)
            try simp only [Act.put, List.setIfInBounds_toArray, List.set_cons_zero, List.set_cons_succ, List.getElem_toArray, List.getElem_cons_succ, List.getElem_cons_zero]
            refine late_one (i := 6) (by kernel_rfl) rfl (fun K hK => ?_)
            go_simp
            refine hK.out _ _ (by assumption) (fun _ => ?_)
            try simp only [Act.put, List.setIfInBounds_toArray, List.set_cons_zero, List.set_cons_succ, List.getElem_toArray, List.getElem_cons_succ, List.getElem_cons_zero]
            refine late_last (by kernel_rfl) rfl (by kernel_rfl) (fun K hK => ?_)
            go_simp
            refine hK.out _ _ ?_
            try simp only [Act.put, List.setIfInBounds_toArray, List.set_cons_zero, List.set_cons_succ, List.getElem_toArray, List.getElem_cons_succ, List.getElem_cons_zero]
            obtain ⟨W9, hW9⟩ : ∃ W9, W9 = put3 w8 g (m * 3) (.int .i64 q) (.int .i64 R) (.slice u8 r.length c8) := ⟨_, rfl⟩
            have hps := put3_same (.int .i64 q) (.int .i64 R) (.slice u8 r.length c8) o0 o1 o2
            have hgw : g < w.heap.size := by have := HFO.out.g1; have := HFO.out.top; omega
            have hgh := F8.out.g1
            have hg0 := F8.out.g0
            have htp := F8.out.top
            have K8 : Hid (Kept w [(w.heap.size, 0, .slice (some ⟨g, 0, none⟩) fs.length cap), (w.heap.size, 1, .int .i64 at'), (w.heap.size, 2, .bool fresh), (w.heap.size + 1, 0, .slice none 0 0), (w.heap.size + 1, 1, .int .i64 0), (w.heap.size + 1, 2, .bool false)] [w.heap.size + 1] w8) := K1.out.next hb18
            have hbs : ∀ b, b ≠ g → W9.heap[b]? = w8.heap[b]? := fun b hb => by rw [hW9]; exact put3_block hb
            have hzs : W9.heap.size = w8.heap.size := by rw [hW9, put3_size]
            have F9 : Hid (FO W9 lo hi g fs.length (vs.set m (.slice u8 r.length c8)) (fs.set m (q, R, r))) := by
              refine F8.out.turn hm hvm (by rw [hzs]; exact Nat.le_refl _) (fun b _ _ h3 _ => hbs b h3) (fun i hi => by rw [hW9]; exact put3_other (by omega)) (fun i => by rw [hW9]; exact put3_frozen _ _ _ _) (by rw [hW9]; exact hps.1) (by rw [hW9]; exact hps.2.1) (by rw [hW9]; exact hps.2.2) ⟨u8, c8, rfl, hc8, ?_⟩ (fun b e => ?_)
              · rcases hu8 with h0 | h0
                · exact .inl (List.eq_nil_of_length_eq_zero h0)
                · refine .inr ⟨gs, off + 1, h0, p0, p1, by rw [hzs]; omega, fun i hi => ?_⟩
                  have hc := HCS.out (i + 1) (by simpa using hi)
                  have hne : gs ≠ g := fun e => F8.out.far m hvm (by rw [HVM.out, e]; rfl)
                  rw [List.getElem_cons_succ] at hc
                  have ea : off + 1 + i = off + (i + 1) := by omega
                  rw [ea]
                  have eb := (hbs gs hne).trans (hb18.block gs p2)
                  exact ⟨(World.cell?_of_block (a := ⟨gs, off + (i + 1), none⟩) eb).trans hc.1, (World.frozen?_of_block (a := ⟨gs, off + (i + 1), none⟩) eb).trans hc.2⟩
              · rw [HVM.out]
                rcases hu8 with h0 | h0
                · rw [h0, el_nil] at e
                  cases e
                · rw [h0] at e
                  cases hr : r.length with
                  | zero => rw [hr] at e; cases e
                  | succ n => rw [hr] at e; exact e
            have c9 : W9.cell? ⟨w.heap.size, 0, none⟩ = some (.slice (some ⟨g, 0, none⟩) fs.length cap) := (World.cell?_of_block (a := ⟨w.heap.size, 0, none⟩) (hbs w.heap.size (by omega))).trans hS8.1
            have c95 : W9.cell? ⟨b5, 0, none⟩ = some (.int .i64 (m : Int)) := (World.cell?_of_block (a := ⟨b5, 0, none⟩) (hbs b5 (by omega))).trans hS8.2.1
            have ⟨_, _, _, ⟨_, t3⟩, ⟨_, t4⟩, ⟨_, t5⟩, _⟩ := K8.out.cells
            have r3 : W9.cell? ⟨w.heap.size + 1, 0, none⟩ = some (.slice none 0 0) := (World.cell?_of_block (a := ⟨w.heap.size + 1, 0, none⟩) (hbs (w.heap.size + 1) (by omega))).trans t3
            have r4 : W9.cell? ⟨w.heap.size + 1, 1, none⟩ = some (.int .i64 0) := (World.cell?_of_block (a := ⟨w.heap.size + 1, 1, none⟩) (hbs (w.heap.size + 1) (by omega))).trans t4
            have r5 : W9.cell? ⟨w.heap.size + 1, 2, none⟩ = some (.bool false) := (World.cell?_of_block (a := ⟨w.heap.size + 1, 2, none⟩) (hbs (w.heap.size + 1) (by omega))).trans t5
            have rf : ∀ o : Nat, W9.frozen? ⟨w.heap.size + 1, o, none⟩ = false := fun o => (World.frozen?_of_block (a := ⟨w.heap.size + 1, o, none⟩) (hbs (w.heap.size + 1) (by omega))).trans ((K8.out.free (w.heap.size + 1) (by simp)).2 o)
            have OI : Hid (OnlyI lo hi w W9) := by rw [hW9]; exact put3_only (OnlyI.of_below K8.out.hb) hg0 hgh
            have HFY : Hid (findT fs (comeOf fs.length at' fresh fs.length) = some ((m : Int), (q, R, r), s)) := by rw [HFD.out]; exact find_yes (by rw [HTR.out]; unfold tryF; simp only; rw [HD.out, if_pos hle, HRR.out])
            change Exit.then _ _ Exit.normal _ (put3 w8 g (m * 3) (.int .i64 q) (.int .i64 R) (.slice u8 r.length c8))
            rw [← hW9]
            clear hW9 hps o0 o1 o2 of0 of1 of2 t3 t4 t5 hS8 l06 e0 e1 e2 f0 hcs6
            go_upto_region 9 with (fail)
            refine region_late (S := fun w' => w'.cell? ⟨w.heap.size, 0, none⟩ = some (.slice (some ⟨g, 0, none⟩) fs.length cap) ∧ w'.cell? ⟨b5, 0, none⟩ = some (.int .i64 (m : Int))) 10 (by kernel_rfl) (⟨by rw [World.cell?_drew]; exact c9, by rw [World.cell?_drew]; exact c95⟩) (fun hS => ?_)
            refine late_take (i := 0) (v := ?_) rfl (by kernel_rfl) (by kernel_rfl) (by kernel_rfl) (by kernel_rfl) (fun _ _ _ h => h) (Or.inl ⟨by rfl, ?_⟩) (by assumption) ?_
            rotate_left 1
            · (intro w' hSw; (try dsimp only at hSw); go_simp; try with_reducible rfl)
            try simp only [Act.put, List.setIfInBounds_toArray, List.set_cons_zero, List.set_cons_succ, List.getElem_toArray, List.getElem_cons_succ, List.getElem_cons_zero]
            refine late_take (i := 1) (v := ?_) rfl (by kernel_rfl) (by kernel_rfl) (by kernel_rfl) (by kernel_rfl) (fun _ _ _ h => h) (Or.inl ⟨by rfl, ?_⟩) (by assumption) ?_
            rotate_left 1
            · (intro w' hSw; (try dsimp only at hSw); go_simp; try with_reducible rfl)
            try simp only [Act.put, List.setIfInBounds_toArray, List.set_cons_zero, List.set_cons_succ, List.getElem_toArray, List.getElem_cons_succ, List.getElem_cons_zero]
            refine late_take (i := 2) (v := ?_) rfl (by kernel_rfl) (by kernel_rfl) (by kernel_rfl) (by kernel_rfl) (fun _ _ _ h => h) (Or.inl ⟨by rfl, ?_⟩) (by assumption) ?_
            rotate_left 1
            · (intro w' hSw; (try dsimp only at hSw); go_simp; try with_reducible rfl)
            try simp only [Act.put, List.setIfInBounds_toArray, List.set_cons_zero, List.set_cons_succ, List.getElem_toArray, List.getElem_cons_succ, List.getElem_cons_zero]
            refine late_take (i := 3) (v := ?_) rfl (by kernel_rfl) (by kernel_rfl) (by kernel_rfl) (by kernel_rfl) (fun _ _ _ h => h) (Or.inl ⟨by rfl, ?_⟩) (by assumption) ?_
            rotate_left 1
            · (intro w' hSw; (try dsimp only at hSw); go_simp; try with_reducible rfl)
            try simp only [Act.put, List.setIfInBounds_toArray, List.set_cons_zero, List.set_cons_succ, List.getElem_toArray, List.getElem_cons_succ, List.getElem_cons_zero]
            refine late_take (i := 4) (v := ?_) rfl (by kernel_rfl) (by kernel_rfl) (by kernel_rfl) (by kernel_rfl) (fun _ _ _ h => h) (Or.inl ⟨by rfl, ?_⟩) (by assumption) ?_
            rotate_left 1
            · (intro w' hSw; (try dsimp only at hSw); go_simp; try with_reducible rfl)
            try simp only [Act.put, List.setIfInBounds_toArray, List.set_cons_zero, List.set_cons_succ, List.getElem_toArray, List.getElem_cons_succ, List.getElem_cons_zero]
            refine late_take (i := 5) (v := ?_) rfl (by kernel_rfl) (by kernel_rfl) (by kernel_rfl) (by kernel_rfl) (fun _ _ _ h => h) (Or.inl ⟨by rfl, ?_⟩) (by assumption) ?_
            rotate_left 1
            · (intro w' hSw; (try dsimp only at hSw); go_simp; try with_reducible rfl)
            try simp only [Act.put, List.setIfInBounds_toArray, List.set_cons_zero, List.set_cons_succ, List.getElem_toArray, List.getElem_cons_succ, List.getElem_cons_zero]
            refine late_take (i := 6) (v := ?_) rfl (by kernel_rfl) (by kernel_rfl) (by kernel_rfl) (by kernel_rfl) (fun _ _ _ h => h) (Or.inl ⟨by rfl, ?_⟩) (by assumption) ?_
            rotate_left 1
            · (intro w' hSw; (try dsimp only at hSw); go_simp; try with_reducible rfl)
            try simp only [Act.put, List.setIfInBounds_toArray, List.set_cons_zero, List.set_cons_succ, List.getElem_toArray, List.getElem_cons_succ, List.getElem_cons_zero]
            refine late_take (i := 7) (v := ?_) rfl (by kernel_rfl) (by kernel_rfl) (by kernel_rfl) (by kernel_rfl) (fun _ _ _ h => h) (Or.inl ⟨by rfl, ?_⟩) (by assumption) ?_
            rotate_left 1
            · (intro w' hSw; (try dsimp only at hSw); go_simp; try with_reducible rfl)
            try simp only [Act.put, List.setIfInBounds_toArray, List.set_cons_zero, List.set_cons_succ, List.getElem_toArray, List.getElem_cons_succ, List.getElem_cons_zero]
            refine late_one (i := 8) (by kernel_rfl) rfl (fun K hK => ?_)
            go_simp
            refine hK.out _ _ (⟨by rw [World.cell?_drew]; exact (far3 (show w.heap.size + 1 ≠ w.heap.size by omega)).trans c9, by rw [World.cell?_drew]; exact (far3 (show w.heap.size + 1 ≠ b5 by omega)).trans c95⟩) (fun hS => ?_)
            try simp only [Act.put, List.setIfInBounds_toArray, List.set_cons_zero, List.set_cons_succ, List.getElem_toArray, List.getElem_cons_succ, List.getElem_cons_zero]
            refine late_one (i := 9) (by kernel_rfl) rfl (fun K hK => ?_)
            go_simp
            refine hK.out _ _ (by assumption) (fun _ => ?_)
            try simp only [Act.put, List.setIfInBounds_toArray, List.set_cons_zero, List.set_cons_succ, List.getElem_toArray, List.getElem_cons_succ, List.getElem_cons_zero]
            refine late_last (by kernel_rfl) rfl (by kernel_rfl) (fun K hK => ?_)
            go_simp
            refine hK.out _ _ ?_
            try simp only [Act.put, List.setIfInBounds_toArray, List.set_cons_zero, List.set_cons_succ, List.getElem_toArray, List.getElem_cons_succ, List.getElem_cons_zero]
            go_wp2
            refine bodyPost_ret (results_tri rfl _ _ _ [.slice (some ⟨g, 0, none⟩) fs.length cap, .int .i64 (m : Int), .bool false] rfl (fun j v hv => by rw [World.cell?_drew]; exact put3_sv (z0 := .slice none 0 0) (z1 := .int .i64 0) (z2 := .bool false) _ _ _ r3 r4 r5 j v hv) Try.underlying48 rfl (by kernel_rfl)) rfl ?_
            have oi : OnlyI lo hi w ((((W9.setCell ⟨w.heap.size + 1, 0, none⟩ (.slice (some ⟨g, 0, none⟩) fs.length cap)).setCell ⟨w.heap.size + 1, 1, none⟩ (.int .i64 (m : Int))).setCell ⟨w.heap.size + 1, 2, none⟩ (.bool false)).drew) := (((OI.out.new (by omega) _).new (by omega) _).new (by omega) _).trans (OnlyI.of_below (Below.refl _ _).drew)
            refine ⟨vs.set m (.slice u8 r.length c8), ?_, ?_, oi⟩
            · unfold srvAt srvFr srvI srvN
              rw [HFY.out]
              rfl
            · unfold srvFs
              rw [HFY.out]
              simp only [Int.toNat_natCast]
              refine F9.out.same (by simp) (fun b h1 h2 => ?_)
              have htw := HFO.out.top
              show (((W9.setCell ⟨w.heap.size + 1, 0, none⟩ (.slice (some ⟨g, 0, none⟩) fs.length cap)).setCell ⟨w.heap.size + 1, 1, none⟩ (.int .i64 (m : Int))).setCell ⟨w.heap.size + 1, 2, none⟩ (.bool false)).heap[b]? = _
              rw [Below.heap_setCell _ _ _ _ (by show b ≠ w.heap.size + 1; omega), Below.heap_setCell _ _ _ _ (by show b ≠ w.heap.size + 1; omega), Below.heap_setCell _ _ _ _ (by show b ≠ w.heap.size + 1; omega)]
          · have hdt : decide (s ≤ D) = false := decide_eq_false hle
            have HNN := HN.out W6 hb16 (by rw [HTR.out]; unfold tryF; rw [HD.out]; exact if_neg hle)
            go_wp2
            exact ⟨fs.length + 1 - (j + 1), by omega, j + 1, _, _, _, _, _, _, _, _, _, _, _, _, _, _, _, _, _, _, _, _, _, _, _, _, _, _, _, _, _, _, _, _, _, _, _, _, _, _, _, _, _, _, _, _, _, _, _, _, _, rfl, by omega, rfl, HNN⟩
        · go_simp
          refine hK.out _ _ (HS.out _ ((Below.refl _ _).drew.alloc (Nat.le_refl _) _)) (fun hS => ?_)
          try simp only [Act.put, List.setIfInBounds_toArray, List.set_cons_zero, List.set_cons_succ, List.getElem_toArray, List.getElem_cons_succ, List.getElem_cons_zero]
          refine late_one (i := 8) (by kernel_rfl) rfl (fun K hK => ?_)
          go_simp
          (refine (inTurn_any q d _ _ _ fr _ hq0 hq1 hd0 hd1).mono ?_; rintro e w6 ⟨rfl, hb6⟩; rw [HDI.out]; have a0 : w6.cell? ⟨v5.heap.size, 0, none⟩ = some (.int .i64 0) := (hb6.cell (p := ⟨v5.heap.size, 0, none⟩) (by simp)).trans (by go_simp); have a1' : w6.cell? ⟨v5.heap.size, 1, none⟩ = some (.int .i64 0) := (hb6.cell (p := ⟨v5.heap.size, 1, none⟩) (by simp)).trans (by go_simp); have a2 : w6.cell? ⟨v5.heap.size, 2, none⟩ = some (.slice none 0 0) := (hb6.cell (p := ⟨v5.heap.size, 2, none⟩) (by simp)).trans (by go_simp); have af : ∀ o : Nat, w6.frozen? ⟨v5.heap.size, o, none⟩ = false := (fun o => (hb6.frozen (p := ⟨v5.heap.size, o, none⟩) (by simp)).trans (by go_simp)); have hz6 : v5.heap.size < w6.heap.size := (by have := hb6.size; simp at this; omega); have hb6 : Below v5.heap.size v5 w6 := ((Below.refl v5.heap.size v5).drew.alloc (Nat.le_refl _) _).trans (hb6.mono (by simp)); have hS6 := HS.out _ hb6)
          refine hK.out _ _ (by assumption) (fun _ => ?_)
          try simp only [Act.put, List.setIfInBounds_toArray, List.set_cons_zero, List.set_cons_succ, List.getElem_toArray, List.getElem_cons_succ, List.getElem_cons_zero]
          refine late_last (by kernel_rfl) rfl (by kernel_rfl) (fun K hK => ?_)
          go_simp
          refine hK.out _ _ ?_
          try simp only [Act.put, List.setIfInBounds_toArray, List.set_cons_zero, List.set_cons_succ, List.getElem_toArray, List.getElem_cons_succ, List.getElem_cons_zero]
          obtain ⟨W6, hW6⟩ : ∃ W6, W6 = ((w6.setCell ⟨v5.heap.size, 0, none⟩ (.int .i64 q)).setCell ⟨v5.heap.size, 1, none⟩ (.int .i64 D)).setCell ⟨v5.heap.size, 2, none⟩ (.slice (some ⟨gs, off, none⟩) (r.length + 1) (sc + 1)) := ⟨_, rfl⟩
          rw [← hW6]
          have hb56 : Below v5.heap.size v5 W6 := by rw [hW6]; exact ((hb6.setCell (by exact Nat.le_refl _) _).setCell (by exact Nat.le_refl _) _).setCell (by exact Nat.le_refl _) _
          have hpp := put3_same (o := 0) (.int .i64 q) (.int .i64 D) (.slice (some ⟨gs, off, none⟩) (r.length + 1) (sc + 1)) a0 a1' a2
          have e0 : W6.cell? ⟨v5.heap.size, 0, none⟩ = some (.int .i64 q) := by rw [hW6]; exact hpp.1
          have e1 : W6.cell? ⟨v5.heap.size, 1, none⟩ = some (.int .i64 D) := by rw [hW6]; exact hpp.2.1
          have e2 : W6.cell? ⟨v5.heap.size, 2, none⟩ = some (.slice (some ⟨gs, off, none⟩) (r.length + 1) (sc + 1)) := by rw [hW6]; exact hpp.2.2
          have e3 : v5.heap.size < W6.heap.size := by rw [hW6]; simp; exact hz6
          have e4 : v5.heap.size ≤ v5.heap.size := Nat.le_refl _
          clear hW6 hpp a0 a1' a2 af
          obtain ⟨b6, hb6e⟩ : ∃ b, b = v5.heap.size := ⟨_, rfl⟩
          rw [← hb6e] at e0 e1 e2 e3 e4 ⊢
          clear hb6e
          have hcs6 : W6.cell? ⟨gs, off, none⟩ = some (.int .i64 s) := (hb56.cell (p := ⟨gs, off, none⟩) hgs5).trans hcs5
          have f0 : W6.cell? ⟨b5, 0, none⟩ = some (.int .i64 (m : Int)) := (hb56.cell (p := ⟨b5, 0, none⟩) yb5).trans cA0
          have hb16 := below_step hb15 hb56
          by_cases hle : s ≤ D
          · have hdt : decide (s ≤ D) = true := decide_eq_true hle
            go_upto_region 8 with (fail)
            have l06 := (hb56.cell (p := ⟨w.heap.size, 0, none⟩) hw5).trans l0
            have hgs6 : gs < W6.heap.size := Nat.lt_of_lt_of_le hgs5 hb56.size
            have hz56 := hb56.size
            obtain ⟨R, hRR⟩ : ∃ R : Int, (if r.length = 0 then 0 else D - s) = R := ⟨_, rfl⟩
            have HRR : Hid ((if r.length = 0 then 0 else D - s) = R) := hRR
            clear hRR
            have HS8 : Hid (∀ w', Below W6.heap.size W6 w' → (fun w' => w'.cell? ⟨w.heap.size, 0, none⟩ = some (.slice (some ⟨g, 0, none⟩) fs.length cap) ∧ w'.cell? ⟨b5, 0, none⟩ = some (.int .i64 (m : Int)) ∧ w'.cell? ⟨b6, 0, none⟩ = some (.int .i64 q) ∧ w'.cell? ⟨b6, 1, none⟩ = some (.int .i64 D) ∧ w'.cell? ⟨b6, 2, none⟩ = some (.slice (some ⟨gs, off, none⟩) (r.length + 1) (sc + 1))) w') := fun w' h => ⟨(h.cell (p := ⟨w.heap.size, 0, none⟩) (by show w.heap.size < W6.heap.size; omega)).trans l06, (h.cell (p := ⟨b5, 0, none⟩) (by show b5 < W6.heap.size; omega)).trans f0, (h.cell (p := ⟨b6, 0, none⟩) e3).trans e0, (h.cell (p := ⟨b6, 1, none⟩) e3).trans e1, (h.cell (p := ⟨b6, 2, none⟩) e3).trans e2⟩
            refine region_late (S := fun w' => w'.cell? ⟨w.heap.size, 0, none⟩ = some (.slice (some ⟨g, 0, none⟩) fs.length cap) ∧ w'.cell? ⟨b5, 0, none⟩ = some (.int .i64 (m : Int)) ∧ w'.cell? ⟨b6, 0, none⟩ = some (.int .i64 q) ∧ w'.cell? ⟨b6, 1, none⟩ = some (.int .i64 D) ∧ w'.cell? ⟨b6, 2, none⟩ = some (.slice (some ⟨gs, off, none⟩) (r.length + 1) (sc + 1))) 7 (by kernel_rfl) (HS8.out _ (Below.refl _ _).drew) (fun hS => ?_)
            refine late_take (i := 0) (v := ?_) rfl (by kernel_rfl) (by kernel_rfl) (by kernel_rfl) (by kernel_rfl) (fun _ _ _ h => h) (Or.inl ⟨by rfl, ?_⟩) (by assumption) ?_
            rotate_left 1
            · (intro w' hSw; (try dsimp only at hSw); go_simp; try with_reducible rfl)
            try simp only [Act.put, List.setIfInBounds_toArray, List.set_cons_zero, List.set_cons_succ, List.getElem_toArray, List.getElem_cons_succ, List.getElem_cons_zero]
            refine late_take (i := 1) (v := ?_) rfl (by kernel_rfl) (by kernel_rfl) (by kernel_rfl) (by kernel_rfl) (fun _ _ _ h => h) (Or.inl ⟨by rfl, ?_⟩) (by assumption) ?_
            rotate_left 1
            · (intro w' hSw; (try dsimp only at hSw); go_simp; try with_reducible rfl)
            try simp only [Act.put, List.setIfInBounds_toArray, List.set_cons_zero, List.set_cons_succ, List.getElem_toArray, List.getElem_cons_succ, List.getElem_cons_zero]
            refine late_take (i := 2) (v := ?_) rfl (by kernel_rfl) (by kernel_rfl) (by kernel_rfl) (by kernel_rfl) (fun _ _ _ h => h) (Or.inl ⟨by rfl, ?_⟩) (by assumption) ?_
            rotate_left 1
            · (intro w' hSw; (try dsimp only at hSw); go_simp; try with_reducible rfl)
            try simp only [Act.put, List.setIfInBounds_toArray, List.set_cons_zero, List.set_cons_succ, List.getElem_toArray, List.getElem_cons_succ, List.getElem_cons_zero]
            refine late_take (i := 3) (v := ?_) rfl (by kernel_rfl) (by kernel_rfl) (by kernel_rfl) (by kernel_rfl) (fun _ _ _ h => h) (Or.inl ⟨by rfl, ?_⟩) (by assumption) ?_
            rotate_left 1
            · (intro w' hSw; (try dsimp only at hSw); go_simp; try with_reducible rfl)
            try simp only [Act.put, List.setIfInBounds_toArray, List.set_cons_zero, List.set_cons_succ, List.getElem_toArray, List.getElem_cons_succ, List.getElem_cons_zero]
            refine late_take (i := 4) (v := ?_) rfl (by kernel_rfl) (by kernel_rfl) (by kernel_rfl) (by kernel_rfl) (fun _ _ _ h => h) (Or.inl ⟨by rfl, ?_⟩) (by assumption) ?_
            rotate_left 1
            · (intro w' hSw; (try dsimp only at hSw); go_simp; try with_reducible rfl)
            try simp only [Act.put, List.setIfInBounds_toArray, List.set_cons_zero, List.set_cons_succ, List.getElem_toArray, List.getElem_cons_succ, List.getElem_cons_zero]
            refine late_one (i := 5) (by kernel_rfl) rfl (fun K hK => ?_)
            go_simp
            (refine (withoutFirst_any q D s (((Below.refl W6.heap.size W6).drew.cell (p := ⟨gs, off, none⟩) hgs6).trans hcs6) hgs6 (by omega) hs0 hle hDb (by omega)).mono ?_; rintro e w8 ⟨u8, c8, rfl, hc8, hu8, hb8⟩; rw [HRR.out]; have hb8 := undrewS hb8; have hS8 := HS8.out _ hb8; have hb18 := below_step hb16 hb8; have F8 : Hid (FO w8 lo hi g fs.length vs fs) := FW.out.next hb18; have hz8 := hb18.size; have o0 : w8.cell? ⟨g, m * 3, none⟩ = some (.int .i64 q) := (hb18.cell (p := ⟨g, m * 3, none⟩) hgl).trans HD0.out; have o1 : w8.cell? ⟨g, m * 3 + 1, none⟩ = some (.int .i64 d) := (hb18.cell (p := ⟨g, m * 3 + 1, none⟩) hgl).trans HD1.out; have o2 : w8.cell? ⟨g, m * 3 + 2, none⟩ = some (.slice (some ⟨gs, off, none⟩) (r.length + 1) (sc + 1)) := (hb18.cell (p := ⟨g, m * 3 + 2, none⟩) hgl).trans HD2.out; have of0 := (F8.out.any (m * 3) (by omega)).2; have of1 := (F8.out.any (m * 3 + 1) (by omega)).2; have of2 := (F8.out.any (m * 3 + 2) (by omega)).2)
            refine hK.out _ _ (by assumption) (fun _ => ?_)
            try simp only [Act.put, List.setIfInBounds_toArray, List.set_cons_zero, List.set_cons_succ, List.getElem_toArray, List.getElem_cons_succ, List.getElem_cons_zero]
            refine late_one (i := 6) (by kernel_rfl) rfl (fun K hK => ?_)
            go_simp
            refine hK.out _ _ (by assumption) (fun _ => ?_)
            try simp only [Act.put, List.setIfInBounds_toArray, List.set_cons_zero, List.set_cons_succ, List.getElem_toArray, List.getElem_cons_succ, List.getElem_cons_zero]
            refine late_last (by kernel_rfl) rfl (by kernel_rfl) (fun K hK => ?_)
            go_simp
            refine hK.out _ _ ?_
            try simp only [Act.put, List.setIfInBounds_toArray, List.set_cons_zero, List.set_cons_succ, List.getElem_toArray, List.getElem_cons_succ, List.getElem_cons_zero]
            obtain ⟨W9, hW9⟩ : ∃ W9, W9 = put3 w8 g (m * 3) (.int .i64 q) (.int .i64 R) (.slice u8 r.length c8) := ⟨_, rfl⟩
            have hps := put3_same (.int .i64 q) (.int .i64 R) (.slice u8 r.length c8) o0 o1 o2
            have hgw : g < w.heap.size := by have := HFO.out.g1; have := HFO.out.top; omega
            have hgh := F8.out.g1
            have hg0 := F8.out.g0
            have htp := F8.out.top
            have K8 : Hid (Kept w [(w.heap.size, 0, .slice (some ⟨g, 0, none⟩) fs.length cap), (w.heap.size, 1, .int .i64 at'), (w.heap.size, 2, .bool fresh), (w.heap.size + 1, 0, .slice none 0 0), (w.heap.size + 1, 1, .int .i64 0), (w.heap.size + 1, 2, .bool false)] [w.heap.size + 1] w8) := K1.out.next hb18
            have hbs : ∀ b, b ≠ g → W9.heap[b]? = w8.heap[b]? := fun b hb => by rw [hW9]; exact put3_block hb
            have hzs : W9.heap.size = w8.heap.size := by rw [hW9, put3_size]
            have F9 : Hid (FO W9 lo hi g fs.length (vs.set m (.slice u8 r.length c8)) (fs.set m (q, R, r))) := by
              refine F8.out.turn hm hvm (by rw [hzs]; exact Nat.le_refl _) (fun b _ _ h3 _ => hbs b h3) (fun i hi => by rw [hW9]; exact put3_other (by omega)) (fun i => by rw [hW9]; exact put3_frozen _ _ _ _) (by rw [hW9]; exact hps.1) (by rw [hW9]; exact hps.2.1) (by rw [hW9]; exact hps.2.2) ⟨u8, c8, rfl, hc8, ?_⟩ (fun b e => ?_)
              · rcases hu8 with h0 | h0
                · exact .inl (List.eq_nil_of_length_eq_zero h0)
                · refine .inr ⟨gs, off + 1, h0, p0, p1, by rw [hzs]; omega, fun i hi => ?_⟩
                  have hc := HCS.out (i + 1) (by simpa using hi)
                  have hne : gs ≠ g := fun e => F8.out.far m hvm (by rw [HVM.out, e]; rfl)
                  rw [List.getElem_cons_succ] at hc
                  have ea : off + 1 + i = off + (i + 1) := by omega
                  rw [ea]
                  have eb := (hbs gs hne).trans (hb18.block gs p2)
                  exact ⟨(World.cell?_of_block (a := ⟨gs, off + (i + 1), none⟩) eb).trans hc.1, (World.frozen?_of_block (a := ⟨gs, off + (i + 1), none⟩) eb).trans hc.2⟩
              · rw [HVM.out]
                rcases hu8 with h0 | h0
                · rw [h0, el_nil] at e
                  cases e
                · rw [h0] at e
                  cases hr : r.length with
                  | zero => rw [hr] at e; cases e
                  | succ n => rw [hr] at e; exact e
            have c9 : W9.cell? ⟨w.heap.size, 0, none⟩ = some (.slice (some ⟨g, 0, none⟩) fs.length cap) := (World.cell?_of_block (a := ⟨w.heap.size, 0, none⟩) (hbs w.heap.size (by omega))).trans hS8.1
            have c95 : W9.cell? ⟨b5, 0, none⟩ = some (.int .i64 (m : Int)) := (World.cell?_of_block (a := ⟨b5, 0, none⟩) (hbs b5 (by omega))).trans hS8.2.1
            have ⟨_, _, _, ⟨_, t3⟩, ⟨_, t4⟩, ⟨_, t5⟩, _⟩ := K8.out.cells
            have r3 : W9.cell? ⟨w.heap.size + 1, 0, none⟩ = some (.slice none 0 0) := (World.cell?_of_block (a := ⟨w.heap.size + 1, 0, none⟩) (hbs (w.heap.size + 1) (by omega))).trans t3
            have r4 : W9.cell? ⟨w.heap.size + 1, 1, none⟩ = some (.int .i64 0) := (World.cell?_of_block (a := ⟨w.heap.size + 1, 1, none⟩) (hbs (w.heap.size + 1) (by omega))).trans t4
            have r5 : W9.cell? ⟨w.heap.size + 1, 2, none⟩ = some (.bool false) := (World.cell?_of_block (a := ⟨w.heap.size + 1, 2, none⟩) (hbs (w.heap.size + 1) (by omega))).trans t5
            have rf : ∀ o : Nat, W9.frozen? ⟨w.heap.size + 1, o, none⟩ = false := fun o => (World.frozen?_of_block (a := ⟨w.heap.size + 1, o, none⟩) (hbs (w.heap.size + 1) (by omega))).trans ((K8.out.free (w.heap.size + 1) (by simp)).2 o)
            have OI : Hid (OnlyI lo hi w W9) := by rw [hW9]; exact put3_only (OnlyI.of_below K8.out.hb) hg0 hgh
            have HFY : Hid (findT fs (comeOf fs.length at' fresh fs.length) = some ((m : Int), (q, R, r), s)) := by rw [HFD.out]; exact find_yes (by rw [HTR.out]; unfold tryF; simp only; rw [HD.out, if_pos hle, HRR.out])
            change Exit.then _ _ Exit.normal _ (put3 w8 g (m * 3) (.int .i64 q) (.int .i64 R) (.slice u8 r.length c8))
            rw [← hW9]
            clear hW9 hps o0 o1 o2 of0 of1 of2 t3 t4 t5 hS8 l06 e0 e1 e2 f0 hcs6
            go_upto_region 9 with (fail)
            refine region_late (S := fun w' => w'.cell? ⟨w.heap.size, 0, none⟩ = some (.slice (some ⟨g, 0, none⟩) fs.length cap) ∧ w'.cell? ⟨b5, 0, none⟩ = some (.int .i64 (m : Int))) 10 (by kernel_rfl) (⟨by rw [World.cell?_drew]; exact c9, by rw [World.cell?_drew]; exact c95⟩) (fun hS => ?_)
            refine late_take (i := 0) (v := ?_) rfl (by kernel_rfl) (by kernel_rfl) (by kernel_rfl) (by kernel_rfl) (fun _ _ _ h => h) (Or.inl ⟨by rfl, ?_⟩) (by assumption) ?_
            rotate_left 1
            · (intro w' hSw; (try dsimp only at hSw); go_simp; try with_reducible rfl)
            try simp only [Act.put, List.setIfInBounds_toArray, List.set_cons_zero, List.set_cons_succ, List.getElem_toArray, List.getElem_cons_succ, List.getElem_cons_zero]
            refine late_take (i := 1) (v := ?_) rfl (by kernel_rfl) (by kernel_rfl) (by kernel_rfl) (by kernel_rfl) (fun _ _ _ h => h) (Or.inl ⟨by rfl, ?_⟩) (by assumption) ?_
            rotate_left 1
            · (intro w' hSw; (try dsimp only at hSw); go_simp; try with_reducible rfl)
            try simp only [Act.put, List.setIfInBounds_toArray, List.set_cons_zero, List.set_cons_succ, List.getElem_toArray, List.getElem_cons_succ, List.getElem_cons_zero]
            refine late_take (i := 2) (v := ?_) rfl (by kernel_rfl) (by kernel_rfl) (by kernel_rfl) (by kernel_rfl) (fun _ _ _ h => h) (Or.inl ⟨by rfl, ?_⟩) (by assumption) ?_
            rotate_left 1
            · (intro w' hSw; (try dsimp only at hSw); go_simp; try with_reducible rfl)
            try simp only [Act.put, List.setIfInBounds_toArray, List.set_cons_zero, List.set_cons_succ, List.getElem_toArray, List.getElem_cons_succ, List.getElem_cons_zero]
            refine late_take (i := 3) (v := ?_) rfl (by kernel_rfl) (by kernel_rfl) (by kernel_rfl) (by kernel_rfl) (fun _ _ _ h => h) (Or.inl ⟨by rfl, ?_⟩) (by assumption) ?_
            rotate_left 1
            · (intro w' hSw; (try dsimp only at hSw); go_simp; try with_reducible rfl)
            try simp only [Act.put, List.setIfInBounds_toArray, List.set_cons_zero, List.set_cons_succ, List.getElem_toArray, List.getElem_cons_succ, List.getElem_cons_zero]
            refine late_take (i := 4) (v := ?_) rfl (by kernel_rfl) (by kernel_rfl) (by kernel_rfl) (by kernel_rfl) (fun _ _ _ h => h) (Or.inl ⟨by rfl, ?_⟩) (by assumption) ?_
            rotate_left 1
            · (intro w' hSw; (try dsimp only at hSw); go_simp; try with_reducible rfl)
            try simp only [Act.put, List.setIfInBounds_toArray, List.set_cons_zero, List.set_cons_succ, List.getElem_toArray, List.getElem_cons_succ, List.getElem_cons_zero]
            refine late_take (i := 5) (v := ?_) rfl (by kernel_rfl) (by kernel_rfl) (by kernel_rfl) (by kernel_rfl) (fun _ _ _ h => h) (Or.inl ⟨by rfl, ?_⟩) (by assumption) ?_
            rotate_left 1
            · (intro w' hSw; (try dsimp only at hSw); go_simp; try with_reducible rfl)
            try simp only [Act.put, List.setIfInBounds_toArray, List.set_cons_zero, List.set_cons_succ, List.getElem_toArray, List.getElem_cons_succ, List.getElem_cons_zero]
            refine late_take (i := 6) (v := ?_) rfl (by kernel_rfl) (by kernel_rfl) (by kernel_rfl) (by kernel_rfl) (fun _ _ _ h => h) (Or.inl ⟨by rfl, ?_⟩) (by assumption) ?_
            rotate_left 1
            · (intro w' hSw; (try dsimp only at hSw); go_simp; try with_reducible rfl)
            try simp only [Act.put, List.setIfInBounds_toArray, List.set_cons_zero, List.set_cons_succ, List.getElem_toArray, List.getElem_cons_succ, List.getElem_cons_zero]
            refine late_take (i := 7) (v := ?_) rfl (by kernel_rfl) (by kernel_rfl) (by kernel_rfl) (by kernel_rfl) (fun _ _ _ h => h) (Or.inl ⟨by rfl, ?_⟩) (by assumption) ?_
            rotate_left 1
            · (intro w' hSw; (try dsimp only at hSw); go_simp; try with_reducible rfl)
            try simp only [Act.put, List.setIfInBounds_toArray, List.set_cons_zero, List.set_cons_succ, List.getElem_toArray, List.getElem_cons_succ, List.getElem_cons_zero]
            refine late_one (i := 8) (by kernel_rfl) rfl (fun K hK => ?_)
            go_simp
            refine hK.out _ _ (⟨by rw [World.cell?_drew]; exact (far3 (show w.heap.size + 1 ≠ w.heap.size by omega)).trans c9, by rw [World.cell?_drew]; exact (far3 (show w.heap.size + 1 ≠ b5 by omega)).trans c95⟩) (fun hS => ?_)
            try simp only [Act.put, List.setIfInBounds_toArray, List.set_cons_zero, List.set_cons_succ, List.getElem_toArray, List.getElem_cons_succ, List.getElem_cons_zero]
            refine late_one (i := 9) (by kernel_rfl) rfl (fun K hK => ?_)
            go_simp
            refine hK.out _ _ (by assumption) (fun _ => ?_)
            try simp only [Act.put, List.setIfInBounds_toArray, List.set_cons_zero, List.set_cons_succ, List.getElem_toArray, List.getElem_cons_succ, List.getElem_cons_zero]
            refine late_last (by kernel_rfl) rfl (by kernel_rfl) (fun K hK => ?_)
            go_simp
            refine hK.out _ _ ?_
            try simp only [Act.put, List.setIfInBounds_toArray, List.set_cons_zero, List.set_cons_succ, List.getElem_toArray, List.getElem_cons_succ, List.getElem_cons_zero]
            go_wp2
            refine bodyPost_ret (results_tri rfl _ _ _ [.slice (some ⟨g, 0, none⟩) fs.length cap, .int .i64 (m : Int), .bool false] rfl (fun j v hv => by rw [World.cell?_drew]; exact put3_sv (z0 := .slice none 0 0) (z1 := .int .i64 0) (z2 := .bool false) _ _ _ r3 r4 r5 j v hv) Try.underlying48 rfl (by kernel_rfl)) rfl ?_
            have oi : OnlyI lo hi w ((((W9.setCell ⟨w.heap.size + 1, 0, none⟩ (.slice (some ⟨g, 0, none⟩) fs.length cap)).setCell ⟨w.heap.size + 1, 1, none⟩ (.int .i64 (m : Int))).setCell ⟨w.heap.size + 1, 2, none⟩ (.bool false)).drew) := (((OI.out.new (by omega) _).new (by omega) _).new (by omega) _).trans (OnlyI.of_below (Below.refl _ _).drew)
            refine ⟨vs.set m (.slice u8 r.length c8), ?_, ?_, oi⟩
            · unfold srvAt srvFr srvI srvN
              rw [HFY.out]
              rfl
            · unfold srvFs
              rw [HFY.out]
              simp only [Int.toNat_natCast]
              refine F9.out.same (by simp) (fun b h1 h2 => ?_)
              have htw := HFO.out.top
              show (((W9.setCell ⟨w.heap.size + 1, 0, none⟩ (.slice (some ⟨g, 0, none⟩) fs.length cap)).setCell ⟨w.heap.size + 1, 1, none⟩ (.int .i64 (m : Int))).setCell ⟨w.heap.size + 1, 2, none⟩ (.bool false)).heap[b]? = _
              rw [Below.heap_setCell _ _ _ _ (by show b ≠ w.heap.size + 1; omega), Below.heap_setCell _ _ _ _ (by show b ≠ w.heap.size + 1; omega), Below.heap_setCell _ _ _ _ (by show b ≠ w.heap.size + 1; omega)]
          · have hdt : decide (s ≤ D) = false := decide_eq_false hle
            have HNN := HN.out W6 hb16 (by rw [HTR.out]; unfold tryF; rw [HD.out]; exact if_neg hle)
            go_wp2
            exact ⟨fs.length + 1 - (j + 1), by omega, j + 1, _, _, _, _, _, _, _, _, _, _, _, _, _, _, _, _, _, _, _, _, _, _, _, _, _, _, _, _, _, _, _, _, _, _, _, _, _, _, _, _, _, _, _, _, _, _, _, _, _, rfl, by omega, rfl, HNN⟩
    · have e : j = fs.length + 1 := by omega
      subst e
      have hre := rest_end (fs := fs) (at' := at') (fresh := fresh) (j := fs.length + 1) (by rw [hcl]; exact Nat.le_refl _)
      have hch := SV.out.chan
      rw [hre] at hch
      refine wpL_shut (c := ch) (cap := fs.length + 1) (s := fs.length + 1) (r := fs.length + 1) (tm := false) (z := .agg #[.int .i64 0, .bool false]) true hk rfl rfl (by simp [go_sem, execOp, rcase, Act.eval]) hch ?_
      simp only [got, if_true]
      try simp only [Act.put, List.setIfInBounds_toArray, List.set_cons_zero, List.set_cons_succ, List.getElem_toArray, List.getElem_cons_succ, List.getElem_cons_zero]
      refine wpL_still (i := 1) (v := ?_) rfl rfl ?_ ?_
      rotate_left 1
      · (go_simp; with_reducible rfl)
      try simp only [Act.put, List.setIfInBounds_toArray, List.set_cons_zero, List.set_cons_succ, List.getElem_toArray, List.getElem_cons_succ, List.getElem_cons_zero]
      refine wpL_nil ?_
      refine g4 _ _ (wpB_of ?_)
      clear g4
      have hfn := SV.out.fnd
      rw [List.drop_eq_nil_of_le (by rw [hcl]; exact Nat.le_refl _)] at hfn
      have HFN : Hid (findT fs (comeOf fs.length at' fresh fs.length) = none) := hfn
      have KW : Hid (Kept w [(w.heap.size, 0, .slice (some ⟨g, 0, none⟩) fs.length cap), (w.heap.size, 1, .int .i64 at'), (w.heap.size, 2, .bool fresh), (w.heap.size + 1, 0, .slice none 0 0), (w.heap.size + 1, 1, .int .i64 0), (w.heap.size + 1, 2, .bool false)] [w.heap.size + 1] W) := SV.out.kept
      clear hfn hch hre SV
      have ⟨⟨z0, k0⟩, ⟨z1, k1⟩, ⟨z2, k2⟩, ⟨z3, k3⟩, ⟨z4, k4⟩, ⟨z5, k5⟩, _⟩ := KW.out.cells
      have fr1 := (KW.out.free (w.heap.size + 1) (by simp)).2
      go_wp2
      refine wpB_of ?_
      go_wp2
      refine bodyPost_ret (results_tri rfl _ _ _ [.slice (some ⟨g, 0, none⟩) fs.length cap, .int .i64 at', .bool fresh] rfl (put3_sv (z0 := .slice none 0 0) (z1 := .int .i64 0) (z2 := .bool false) _ _ _ k3 k4 k5) Try.underlying48 rfl (by kernel_rfl)) rfl ?_
      have hb3 : Below w.heap.size w (((W.setCell ⟨w.heap.size + 1, 0, none⟩ (.slice (some ⟨g, 0, none⟩) fs.length cap)).setCell ⟨w.heap.size + 1, 1, none⟩ (.int .i64 at')).setCell ⟨w.heap.size + 1, 2, none⟩ (.bool fresh)) := ((KW.out.hb.setCell (by show w.heap.size ≤ w.heap.size + 1; omega) _).setCell (by show w.heap.size ≤ w.heap.size + 1; omega) _).setCell (by show w.heap.size ≤ w.heap.size + 1; omega) _
      refine ⟨vs, ?_, ?_, OnlyI.of_below hb3⟩
      · unfold srvAt srvFr srvI srvN
        rw [HFN.out]
        rfl
      · unfold srvFs
        rw [HFN.out]
        exact HFO.out.same hb3.size (fun b h1 h2 => hb3.block b (Nat.lt_of_lt_of_le h2 HFO.out.top))
end Go.Proofs.Ytdgefdjgpneanad
