/- Lemmas on the way, of several texts: SpecPlc2, SpecCp13, ConRow, ImplCon, CpKn, EngPost, SpecEngA. -/
import Derived.Test.YtkohlmloobojfaaGreatGrpAV
import Derived.Test.YtkohlmloobojfaaGreatGrpAM
import Derived.Test.YtkohlmloobojfaaGreatGrpAF
import Derived.Test.YtkohlmloobojfaaGreatGrpAW
import Derived.Test.YtkohlmloobojfaaGreatGrpAH
import Derived.Test.YtkohlmloobojfaaGreatGrpAS
import Derived.Test.YtkohlmloobojfaaGreatGrpAG
import Derived.Lib.SliceRun
import Derived.Deep.QuietTactic
import Derived.BigQuiet
import Derived.Test.YtkohlmloobojfaaGreatGrpAC
namespace Go.Proofs.YtkohlmloobojfaaGreat
open Go.ChangeShapes Go.WideShapes Go.ChangeAt Go.RowKit
set_option maxRecDepth 100000
set_option linter.unusedVariables false
set_option linter.unusedSimpArgs false
theorem specPlaceOk_is {wd fl : Int} {w : World} {a : Option Addr} (cap : Nat) {xs : List Int} {f : Bool} (hf : plB wd fl xs = f) (smp : ISmp w.heap.size w a xs) : Calls Tryz.prog 69 #[.agg #[.int .i64 wd, .int .i64 fl, .slice a xs.length cap]] w fun e w' => e = .returned (.bool f) ∧ Below w.heap.size w w' := by subst hf; exact specPlaceOk_any cap smp
theorem pl_num {wd fl : Int} {xs : List Int} (h : plB wd fl xs = true) : (3000 ≤ wd ∧ wd ≤ 1000000000) ∧ (0 ≤ fl ∧ fl ≤ 1000000000) ∧ xs.length ≤ 50 := by
 obtain ⟨h1, h2, h3, _⟩ := pl_yes h
 unfold openB at h1
 unfold w10B at h2
 simp only [Bool.and_eq_true, decide_eq_true_eq] at h1 h2
 exact ⟨h1, h2, h3⟩
/-- A Place with a list of its own, made anew. -/
def AnsP (w : World) (xs : List Int) (wd fl : Int) (e : Ending) (w' : World) : Prop := ∃ a n c, e = .returned (.agg #[.int .i64 wd, .int .i64 fl, .slice a n c]) ∧ IV w' w.heap.size (.slice a n c) xs ∧ Below w.heap.size w w'
set_option maxHeartbeats 4000000 in
theorem l13Copy_any {wd fl : Int} {w : World} {a : Option Addr} (cap : Nat) {xs : List Int} (hl : xs.length ≤ 1048576) (smp : ISmp w.heap.size w a xs) : Calls Tryz.prog 71 #[.agg #[.int .i64 wd, .int .i64 fl, .slice a xs.length cap]] w (AnsP w xs wd fl) := by
 obtain ⟨i0, hi, hz0, hz1, hz2⟩ := info_parts info_int
 go_enter Tryz.func71, Tryz.ntmps71
 go_upto_region 1 with (fail)
 obtain ⟨x, hx⟩ : ∃ x, x = (w.alloc (.cells #[.int .i64 wd, .int .i64 fl, .slice a xs.length cap] 58)).alloc (.cells #[.int .i64 0, .int .i64 0, .slice none 0 0] 58) := ⟨_, rfl⟩
 rw [← hx]
 have hbw : Below w.heap.size w x := by rw [hx]; go_grown
 have zl : w.heap.size + 1 + 1 ≤ x.heap.size := by rw [hx]; simp
 have p0 : x.cell? ⟨w.heap.size, 0, none⟩ = some (.int .i64 wd) := by rw [hx]; go_simp
 have p1 : x.cell? ⟨w.heap.size, 1, none⟩ = some (.int .i64 fl) := by rw [hx]; go_simp
 have p2 : x.cell? ⟨w.heap.size, 2, none⟩ = some (.slice a xs.length cap) := by rw [hx]; go_simp
 have v0 : x.cell? ⟨w.heap.size + 1, 0, none⟩ = some (.int .i64 0) := by rw [hx]; go_simp
 have v1 : x.cell? ⟨w.heap.size + 1, 1, none⟩ = some (.int .i64 0) := by rw [hx]; go_simp
 have v2 : x.cell? ⟨w.heap.size + 1, 2, none⟩ = some (.slice none 0 0) := by rw [hx]; go_simp
 have pz : ∀ o : Nat, x.frozen? ⟨w.heap.size, o, none⟩ = false := fun o => by rw [hx]; go_simp
 have vz : ∀ o : Nat, x.frozen? ⟨w.heap.size + 1, o, none⟩ = false := fun o => by rw [hx]; go_simp
 clear hx
 have HSM : Hid (ISmp w.heap.size (x.alloc (.cells #[] 2)) a xs) := (smp.mono hbw).mono ((new_below x _).mono (by omega))
 have n0 : x.heap.size ≠ w.heap.size := by omega
 have n1 : w.heap.size ≠ x.heap.size := by omega
 have n2 : w.heap.size < x.heap.size := by omega
 go_upto_region 2 with (first
   | (at_builtin; refine wpList_append_smp (by rfl) _ _ 56 rfl x.heap.size 2 i0 _ Tryz.underlying56 hi hz0 hz1 hz2 rfl _ 0 [] rfl (own_none1 x _ _ rfl (Nat.le_refl _) _) a cap w.heap.size xs rfl HSM.out (by omega) (by simp) ?_; intro v' w3 own3 gr3; have hb3 : Below x.heap.size x w3 := ((Below.refl _ x).alloc (Nat.le_refl _) _).grown gr3 (by simp) (fun k hk => Nat.le_of_eq (Option.some.inj hk)); rw [Nat.zero_add, List.nil_append] at own3; obtain ⟨va, ca, rfl⟩ := own_slice own3; have hbw : Below w.heap.size w w3 := below_two hbw hb3; have p0 := (hb3.cell (p := ⟨w.heap.size, 0, none⟩) (by show w.heap.size < _; omega)).trans p0; have p1 := (hb3.cell (p := ⟨w.heap.size, 1, none⟩) (by show w.heap.size < _; omega)).trans p1; have p2 := (hb3.cell (p := ⟨w.heap.size, 2, none⟩) (by show w.heap.size < _; omega)).trans p2; have v0 := (hb3.cell (p := ⟨w.heap.size + 1, 0, none⟩) (by show w.heap.size + 1 < _; omega)).trans v0; have v1 := (hb3.cell (p := ⟨w.heap.size + 1, 1, none⟩) (by show w.heap.size + 1 < _; omega)).trans v1; have v2 := (hb3.cell (p := ⟨w.heap.size + 1, 2, none⟩) (by show w.heap.size + 1 < _; omega)).trans v2; have vz : ∀ o : Nat, w3.frozen? ⟨w.heap.size + 1, o, none⟩ = false := fun o => (hb3.frozen (p := ⟨w.heap.size + 1, o, none⟩) (by show w.heap.size + 1 < _; omega)).trans (vz o); have zl : w.heap.size + 1 + 1 ≤ w3.heap.size := Nat.le_trans zl hb3.size; have pz : ∀ o : Nat, w3.frozen? ⟨w.heap.size, o, none⟩ = false := (fun o => (hb3.frozen (p := ⟨w.heap.size, o, none⟩) (by show w.heap.size < _; omega)).trans (pz o))))
 have iv : IV w3 x.heap.size (.slice va xs.length ca) xs := own_ints own3
 obtain ⟨x4, hx4⟩ : ∃ y, y = w3.setCell ⟨w.heap.size, 2, none⟩ (.slice va xs.length ca) := ⟨_, rfl⟩
 rw [← hx4]
 have oX : Only w.heap.size w3 x4 := by rw [hx4]; exact (Only.refl _ w3).setCell (p := ⟨w.heap.size, 2, none⟩) rfl _
 have p0 : x4.cell? ⟨w.heap.size, 0, none⟩ = some (.int .i64 wd) := by rw [hx4]; exact (set_other4 (by decide)).trans p0
 have p1 : x4.cell? ⟨w.heap.size, 1, none⟩ = some (.int .i64 fl) := by rw [hx4]; exact (set_other4 (by decide)).trans p1
 have p2 : x4.cell? ⟨w.heap.size, 2, none⟩ = some (.slice va xs.length ca) := by rw [hx4]; exact set_same4 _ p2
 have v0 : x4.cell? ⟨w.heap.size + 1, 0, none⟩ = some (.int .i64 0) := (oX.cell (by show w.heap.size + 1 < _; omega) (by show w.heap.size + 1 ≠ _; omega)).trans v0
 have v1 : x4.cell? ⟨w.heap.size + 1, 1, none⟩ = some (.int .i64 0) := (oX.cell (by show w.heap.size + 1 < _; omega) (by show w.heap.size + 1 ≠ _; omega)).trans v1
 have v2 : x4.cell? ⟨w.heap.size + 1, 2, none⟩ = some (.slice none 0 0) := (oX.cell (by show w.heap.size + 1 < _; omega) (by show w.heap.size + 1 ≠ _; omega)).trans v2
 have vz : ∀ o : Nat, x4.frozen? ⟨w.heap.size + 1, o, none⟩ = false := fun o => (oX.frozen (by show w.heap.size + 1 < _; omega) (by show w.heap.size + 1 ≠ _; omega)).trans (vz o)
 have iv : IV x4 x.heap.size (.slice va xs.length ca) xs := iv.onlyO (OnlyO.of_only oX) (fun g hg e => by have := (iv.own hg).1; injection e with e; omega)
 have hbw : Below w.heap.size w x4 := hbw.trans (oX.below (Nat.le_refl _) (by omega))
 have zl : w.heap.size + 1 + 1 ≤ x4.heap.size := Nat.le_trans zl oX.size
 clear hx4 oX own3 gr3 HSM
 go_wp2
 obtain ⟨y, ey, cs, fzy, sz, hbel, hon⟩ := over3 (.int .i64 wd) (.int .i64 fl) (.slice va xs.length ca) (w := x4) (g := w.heap.size + 1) v0 v1 v2
 rw [← ey]
 refine bodyPost_ret (results_one rfl _ _ _ [.int .i64 wd, .int .i64 fl, .slice va xs.length ca] rfl cs Tryz.underlying58 rfl (by kernel_rfl)) rfl ?_
 exact ⟨va, xs.length, ca, rfl, (iv.onlyO (OnlyO.of_only hon) (fun g hg e => by have := (iv.own hg).1; injection e with e; omega)).lower (by omega), hbw.trans (hbel _ (by omega))⟩
/-- A Place with a list of its own, a row. -/
def AnsPO (w : World) (xs : List Int) (wd fl : Int) (e : Ending) (w' : World) : Prop := ∃ a c, e = .returned (.agg #[.int .i64 wd, .int .i64 fl, .slice a xs.length c]) ∧ w'.ownsRow w.heap.size 2 1 (.slice a xs.length c) xs.length (flatI xs) ∧ Below w.heap.size w w'
theorem row_lowE {w : World} {lo lo' n s : Nat} {e : TypeId} {v : Value} {xs : List Value} (h : w.ownsRow lo e s v n xs) (hl : lo' ≤ lo) : w.ownsRow lo' e s v n xs := by
 refine ⟨h.1, ?_⟩
 rcases h.2 with h | ⟨g, cap, cur, e1, h1, h2⟩
 · exact .inl h
 · exact .inr ⟨g, cap, cur, e1, Nat.le_trans hl h1, h2⟩
set_option maxHeartbeats 4000000 in
theorem l13CopyO_any {wd fl : Int} {w : World} {a : Option Addr} (cap : Nat) {xs : List Int} (hl : xs.length ≤ 1048576) (smp : ISmp w.heap.size w a xs) : Calls Tryz.prog 71 #[.agg #[.int .i64 wd, .int .i64 fl, .slice a xs.length cap]] w (AnsPO w xs wd fl) := by
 obtain ⟨i0, hi, hz0, hz1, hz2⟩ := info_parts info_int
 go_enter Tryz.func71, Tryz.ntmps71
 go_upto_region 1 with (fail)
 obtain ⟨x, hx⟩ : ∃ x, x = (w.alloc (.cells #[.int .i64 wd, .int .i64 fl, .slice a xs.length cap] 58)).alloc (.cells #[.int .i64 0, .int .i64 0, .slice none 0 0] 58) := ⟨_, rfl⟩
 rw [← hx]
 have hbw : Below w.heap.size w x := by rw [hx]; go_grown
 have zl : w.heap.size + 1 + 1 ≤ x.heap.size := by rw [hx]; simp
 have p0 : x.cell? ⟨w.heap.size, 0, none⟩ = some (.int .i64 wd) := by rw [hx]; go_simp
 have p1 : x.cell? ⟨w.heap.size, 1, none⟩ = some (.int .i64 fl) := by rw [hx]; go_simp
 have p2 : x.cell? ⟨w.heap.size, 2, none⟩ = some (.slice a xs.length cap) := by rw [hx]; go_simp
 have v0 : x.cell? ⟨w.heap.size + 1, 0, none⟩ = some (.int .i64 0) := by rw [hx]; go_simp
 have v1 : x.cell? ⟨w.heap.size + 1, 1, none⟩ = some (.int .i64 0) := by rw [hx]; go_simp
 have v2 : x.cell? ⟨w.heap.size + 1, 2, none⟩ = some (.slice none 0 0) := by rw [hx]; go_simp
 have pz : ∀ o : Nat, x.frozen? ⟨w.heap.size, o, none⟩ = false := fun o => by rw [hx]; go_simp
 have vz : ∀ o : Nat, x.frozen? ⟨w.heap.size + 1, o, none⟩ = false := fun o => by rw [hx]; go_simp
 clear hx
 have HSM : Hid (ISmp w.heap.size (x.alloc (.cells #[] 2)) a xs) := (smp.mono hbw).mono ((new_below x _).mono (by omega))
 have n0 : x.heap.size ≠ w.heap.size := by omega
 have n1 : w.heap.size ≠ x.heap.size := by omega
 have n2 : w.heap.size < x.heap.size := by omega
 go_upto_region 2 with (first
   | (at_builtin; refine wpList_append_smp (by rfl) _ _ 56 rfl x.heap.size 2 i0 _ Tryz.underlying56 hi hz0 hz1 hz2 rfl _ 0 [] rfl (own_none1 x _ _ rfl (Nat.le_refl _) _) a cap w.heap.size xs rfl HSM.out (by omega) (by simp) ?_; intro v' w3 own3 gr3; have hb3 : Below x.heap.size x w3 := ((Below.refl _ x).alloc (Nat.le_refl _) _).grown gr3 (by simp) (fun k hk => Nat.le_of_eq (Option.some.inj hk)); rw [Nat.zero_add, List.nil_append] at own3; obtain ⟨va, ca, rfl⟩ := own_slice own3; have hbw : Below w.heap.size w w3 := below_two hbw hb3; have p0 := (hb3.cell (p := ⟨w.heap.size, 0, none⟩) (by show w.heap.size < _; omega)).trans p0; have p1 := (hb3.cell (p := ⟨w.heap.size, 1, none⟩) (by show w.heap.size < _; omega)).trans p1; have p2 := (hb3.cell (p := ⟨w.heap.size, 2, none⟩) (by show w.heap.size < _; omega)).trans p2; have v0 := (hb3.cell (p := ⟨w.heap.size + 1, 0, none⟩) (by show w.heap.size + 1 < _; omega)).trans v0; have v1 := (hb3.cell (p := ⟨w.heap.size + 1, 1, none⟩) (by show w.heap.size + 1 < _; omega)).trans v1; have v2 := (hb3.cell (p := ⟨w.heap.size + 1, 2, none⟩) (by show w.heap.size + 1 < _; omega)).trans v2; have vz : ∀ o : Nat, w3.frozen? ⟨w.heap.size + 1, o, none⟩ = false := fun o => (hb3.frozen (p := ⟨w.heap.size + 1, o, none⟩) (by show w.heap.size + 1 < _; omega)).trans (vz o); have zl : w.heap.size + 1 + 1 ≤ w3.heap.size := Nat.le_trans zl hb3.size; have pz : ∀ o : Nat, w3.frozen? ⟨w.heap.size, o, none⟩ = false := (fun o => (hb3.frozen (p := ⟨w.heap.size, o, none⟩) (by show w.heap.size < _; omega)).trans (pz o))))
 have iv : IV w3 x.heap.size (.slice va xs.length ca) xs := own_ints own3
 obtain ⟨x4, hx4⟩ : ∃ y, y = w3.setCell ⟨w.heap.size, 2, none⟩ (.slice va xs.length ca) := ⟨_, rfl⟩
 rw [← hx4]
 have oX : Only w.heap.size w3 x4 := by rw [hx4]; exact (Only.refl _ w3).setCell (p := ⟨w.heap.size, 2, none⟩) rfl _
 have p0 : x4.cell? ⟨w.heap.size, 0, none⟩ = some (.int .i64 wd) := by rw [hx4]; exact (set_other4 (by decide)).trans p0
 have p1 : x4.cell? ⟨w.heap.size, 1, none⟩ = some (.int .i64 fl) := by rw [hx4]; exact (set_other4 (by decide)).trans p1
 have p2 : x4.cell? ⟨w.heap.size, 2, none⟩ = some (.slice va xs.length ca) := by rw [hx4]; exact set_same4 _ p2
 have v0 : x4.cell? ⟨w.heap.size + 1, 0, none⟩ = some (.int .i64 0) := (oX.cell (by show w.heap.size + 1 < _; omega) (by show w.heap.size + 1 ≠ _; omega)).trans v0
 have v1 : x4.cell? ⟨w.heap.size + 1, 1, none⟩ = some (.int .i64 0) := (oX.cell (by show w.heap.size + 1 < _; omega) (by show w.heap.size + 1 ≠ _; omega)).trans v1
 have v2 : x4.cell? ⟨w.heap.size + 1, 2, none⟩ = some (.slice none 0 0) := (oX.cell (by show w.heap.size + 1 < _; omega) (by show w.heap.size + 1 ≠ _; omega)).trans v2
 have vz : ∀ o : Nat, x4.frozen? ⟨w.heap.size + 1, o, none⟩ = false := fun o => (oX.frozen (by show w.heap.size + 1 < _; omega) (by show w.heap.size + 1 ≠ _; omega)).trans (vz o)
 have own4 : x4.ownsRow x.heap.size 2 1 (.slice va xs.length ca) xs.length (flatI xs) := own3.kept (row := some w.heap.size) ⟨oX.os, oX.tape, oX.output, oX.size, fun k hk hn => oX.block k hk (fun e => hn (by rw [e]))⟩ (by
   cases hob : (Value.slice va xs.length ca).ownBlock with
   | none => exact .inl rfl
   | some q => exact .inr (fun e => by have h1 := (own3.lt q hob).1; have h3 := Option.some.inj e; omega))
 have iv : IV x4 x.heap.size (.slice va xs.length ca) xs := iv.onlyO (OnlyO.of_only oX) (fun g hg e => by have := (iv.own hg).1; injection e with e; omega)
 have hbw : Below w.heap.size w x4 := hbw.trans (oX.below (Nat.le_refl _) (by omega))
 have zl : w.heap.size + 1 + 1 ≤ x4.heap.size := Nat.le_trans zl oX.size
 clear hx4 oX own3 gr3 HSM
 go_wp2
 obtain ⟨y, ey, cs, fzy, sz, hbel, hon⟩ := over3 (.int .i64 wd) (.int .i64 fl) (.slice va xs.length ca) (w := x4) (g := w.heap.size + 1) v0 v1 v2
 rw [← ey]
 refine bodyPost_ret (results_one rfl _ _ _ [.int .i64 wd, .int .i64 fl, .slice va xs.length ca] rfl cs Tryz.underlying58 rfl (by kernel_rfl)) rfl ?_
 have own5 : y.ownsRow x.heap.size 2 1 (.slice va xs.length ca) xs.length (flatI xs) := own4.kept (row := some (w.heap.size + 1)) ⟨hon.os, hon.tape, hon.output, hon.size, fun k hk hn => hon.block k hk (fun e => hn (by rw [e]))⟩ (by
   cases hob : (Value.slice va xs.length ca).ownBlock with
   | none => exact .inl rfl
   | some q => exact .inr (fun e => by have h1 := (own4.lt q hob).1; have h3 := Option.some.inj e; omega))
 exact ⟨va, ca, rfl, row_lowE own5 (by omega), hbw.trans (hbel _ (by omega))⟩
/-- A connection and where its list lies. -/
abbrev G14 := Kn × Value
def cs14 (x : G14) : List Value := x.1.cs ++ [x.2]
theorem cs14_length (x : G14) : (cs14 x).length = 14 := rfl
def flatK (G : List G14) : List Value := G.flatMap cs14
theorem flatK_append (a b : List G14) : flatK (a ++ b) = flatK a ++ flatK b := List.flatMap_append
theorem flatK_length (G : List G14) : (flatK G).length = G.length * 14 := by
 induction G with
 | nil => rfl
 | cons x r ih =>
   show (cs14 x ++ flatK r).length = _
   rw [List.length_append, ih, cs14_length, List.length_cons]
   omega
theorem flatK_get (G : List G14) : ∀ i (h : i < G.length) j, j < 14 → (flatK G)[i * 14 + j]? = (cs14 G[i])[j]? := by
 induction G with
 | nil => intro i h; cases h
 | cons x r ih =>
   intro i h j hj
   show (cs14 x ++ flatK r)[i * 14 + j]? = _
   cases i with
   | zero =>
     rw [Nat.zero_mul, Nat.zero_add, List.getElem?_append_left (by rw [cs14_length]; exact hj)]
     rfl
   | succ i =>
     rw [List.getElem?_append_right (by rw [cs14_length]; omega), cs14_length, show (i + 1) * 14 + j - 14 = i * 14 + j by omega]
     exact ih i (by simpa using h) j hj
/-- The rows' connections, their lists to be read. -/
structure VK (B : Nat) (w : World) (G : List G14) (K : List Kn) : Prop where
 fst : G.map Prod.fst = K
 at' : ∀ i (h : i < G.length), SzV B w G[i].2 G[i].1.xs
theorem VK.len {B : Nat} {w : World} {G : List G14} {K : List Kn} (h : VK B w G K) : G.length = K.length := by rw [← h.fst, List.length_map]
theorem VK.get {B : Nat} {w : World} {G : List G14} {K : List Kn} (h : VK B w G K) {i : Nat} (h1 : i < G.length) (h2 : i < K.length) : G[i].1 = K[i] := by
 have : (G.map Prod.fst)[i]? = K[i]? := by rw [h.fst]
 rw [List.getElem?_map, List.getElem?_eq_getElem h1, List.getElem?_eq_getElem h2] at this
 exact Option.some.inj this
theorem VK.one {B : Nat} {w : World} {G : List G14} {K : List Kn} (h : VK B w G K) : ∀ u ∈ flatK G, u.oneCell' = true := by
 intro u hu
 obtain ⟨x, hx, hu⟩ := List.mem_flatMap.1 hu
 obtain ⟨i, hi, rfl⟩ := List.mem_iff_getElem.1 hx
 obtain ⟨sa, sc, e, _⟩ := h.at' i hi
 simp only [cs14, Kn.cs, List.mem_append, List.mem_cons, List.not_mem_nil, or_false] at hu
 rcases hu with (rfl | rfl | rfl | rfl | rfl | rfl | rfl | rfl | rfl | rfl | rfl | rfl | rfl) | rfl
 all_goals first | rfl | (rw [e]; rfl)
theorem VK.mono {B : Nat} {w x : World} {G : List G14} {K : List Kn} (h : VK B w G K) (hb : Below B w x) : VK B x G K := ⟨h.fst, fun i hi => (h.at' i hi).mono hb⟩
theorem VK.here {w x : World} {G : List G14} {K : List Kn} (h : VK w.heap.size w G K) (hb : Below w.heap.size w x) : VK x.heap.size x G K := ⟨h.fst, fun i hi => (h.at' i hi).here hb⟩
theorem VK.filter {B : Nat} {w : World} {G : List G14} {K : List Kn} (h : VK B w G K) (p : Kn → Bool) : VK B w (G.filter (fun x => p x.1)) (K.filter p) := by
 refine ⟨?_, fun i hi => ?_⟩
 · rw [← h.fst, List.filter_map]
   rfl
 · have hm := List.getElem_mem hi
   obtain ⟨hm, _⟩ := List.mem_filter.1 hm
   obtain ⟨j, hj, e⟩ := List.mem_iff_getElem.1 hm
   rw [← e]
   exact h.at' j hj
theorem addr_add (b o j : Nat) : (⟨b, o, none⟩ : Addr).add j = ⟨b, o + j, none⟩ := by unfold Addr.add; split <;> simp_all
theorem Kls.vals {B : Nat} {w : World} {a : Option Addr} {K : List Kn} (h : Kls B w a K) (hn : 0 < K.length) :
   ∃ b off G, a = some ⟨b, off, none⟩ ∧ b < B ∧ VK B w G K ∧ ∀ j u, (flatK G)[j]? = some u → w.cell? ((⟨b, off, none⟩ : Addr).add j) = some u := by
 obtain ⟨b, off, sa, sc, rfl, hb, _⟩ := h 0 hn
 have one : ∀ i, i < K.length → ∃ x : G14, ∀ h' : i < K.length, (x.1 = K[i] ∧ SzV B w x.2 x.1.xs) ∧ ∀ j u, (cs14 x)[j]? = some u → w.cell? ⟨b, off + i * 14 + j, none⟩ = some u := by
   intro i hi
   obtain ⟨b', off', sa, sc, e, _, c0, c1, s⟩ := h i hi
   injection e with e
   injection e with e1 e2
   subst e1 e2
   refine ⟨(K[i], .slice sa K[i].xs.length sc), fun _ => ⟨⟨rfl, sa, sc, rfl, s⟩, fun j u hu => ?_⟩⟩
   have hj := (List.getElem?_eq_some_iff.1 hu).1
   rw [cs14_length] at hj
   by_cases e : j = 13
   · subst e
     have : Value.slice sa K[i].xs.length sc = u := by
       have : (cs14 (K[i], Value.slice sa K[i].xs.length sc))[13]? = some (.slice sa K[i].xs.length sc) := rfl
       rw [this] at hu
       exact Option.some.inj hu
     rw [← this]
     exact c1
   · refine c0 j u ?_
     unfold cs14 at hu
     rw [List.getElem?_append_left (by rw [Kn.len]; omega)] at hu
     exact hu
 obtain ⟨G, hl, hG⟩ := pick_list one
 refine ⟨b, off, G, rfl, hb, ⟨?_, fun i hi => (hG i hi (by omega)).1.2⟩, fun j u hu => ?_⟩
 · apply List.ext_getElem
   · rw [List.length_map, hl]
   · intro i h1 h2
     rw [List.getElem_map]
     exact (hG i (by omega) h2).1.1
 · have hj : j < (flatK G).length := (List.getElem?_eq_some_iff.1 hu).1
   rw [flatK_length] at hj
   rw [addr_add]
   have hi : j / 14 < G.length := by omega
   have hg := flatK_get G (j / 14) hi (j % 14) (by omega)
   rw [show j / 14 * 14 + j % 14 = j by omega, hu] at hg
   have := (hG (j / 14) hi (by omega)).2 (j % 14) u hg.symm
   rw [show off + j / 14 * 14 + j % 14 = off + j by omega] at this
   exact this
/-! A row is stored into. -/
def setL (xs : List Value) : Nat → List Value → List Value
  | _, [] => xs
  | s, v :: r => setL (xs.set s v) (s + 1) r
theorem row_setL {base : Nat} {e : TypeId} {g n cap m : Nat} : ∀ (vs : List Value) (s : Nat) (w : World) (xs : List Value), w.ownsRow base e m (.slice (some ⟨g, 0, none⟩) n cap) n xs → (w.setCells g s vs).ownsRow base e m (.slice (some ⟨g, 0, none⟩) n cap) n (setL xs s vs)
 | [], _, _, _, h => h
 | v :: r, s, w, xs, h => row_setL r (s + 1) _ _ (h.stored s v).1
theorem setL_get : ∀ (vs xs : List Value) (s j : Nat), s + vs.length ≤ xs.length → (setL xs s vs)[j]? = if s ≤ j ∧ j < s + vs.length then vs[j - s]? else xs[j]?
  | [], xs, s, j, _ => by
    show xs[j]? = _
    rw [if_neg (by simp)]
  | v :: r, xs, s, j, h => by
    show (setL (xs.set s v) (s + 1) r)[j]? = _
    rw [List.length_cons] at h
    rw [setL_get r _ _ _ (by rw [List.length_set]; omega), List.getElem?_set, List.length_cons]
    by_cases h1 : j = s
    · subst h1
      rw [if_neg (by omega), if_pos rfl, if_pos (by omega), if_pos (by omega), Nat.sub_self]
      rfl
    · by_cases h2 : s + 1 ≤ j ∧ j < s + 1 + r.length
      · rw [if_pos h2, if_pos (by omega), show j - s = j - (s + 1) + 1 by omega, List.getElem?_cons_succ]
      · rw [if_neg h2, if_neg (fun e => h1 e.symm), if_neg (by omega)]
theorem flatK_set (G : List G14) {i : Nat} (hi : i < G.length) (x : G14) : setL (flatK G) (i * 14) (cs14 x) = flatK (G.set i x) := by
 apply List.ext_getElem?
 intro j
 rw [setL_get _ _ _ _ (by rw [flatK_length, cs14_length]; omega), cs14_length]
 by_cases hj : j < G.length * 14
 · have h1 := flatK_get (G.set i x) (j / 14) (by rw [List.length_set]; omega) (j % 14) (by omega)
   have h2 := flatK_get G (j / 14) (by omega) (j % 14) (by omega)
   rw [show j / 14 * 14 + j % 14 = j by omega] at h1 h2
   rw [h1, h2, List.getElem_set]
   by_cases e : i = j / 14
   · rw [if_pos (by omega), if_pos e, show j - i * 14 = j % 14 by omega]
   · rw [if_neg (by omega), if_neg e]
 · rw [if_neg (by omega), List.getElem?_eq_none (by rw [flatK_length]; omega), List.getElem?_eq_none (by rw [flatK_length, List.length_set]; omega)]
theorem flatK_take (G : List G14) (i : Nat) : (flatK G).take (i * 14) = flatK (G.take i) := by
 apply List.ext_getElem?
 intro j
 rw [List.getElem?_take]
 by_cases hj : j < i * 14
 · rw [if_pos hj]
   by_cases h2 : j < G.length * 14
   · have h1 := flatK_get (G.take i) (j / 14) (by rw [List.length_take]; omega) (j % 14) (by omega)
     have h2 := flatK_get G (j / 14) (by omega) (j % 14) (by omega)
     rw [show j / 14 * 14 + j % 14 = j by omega] at h1 h2
     rw [h1, h2, List.getElem_take]
   · rw [List.getElem?_eq_none (by rw [flatK_length]; omega), List.getElem?_eq_none (by rw [flatK_length, List.length_take]; omega)]
 · rw [if_neg hj, List.getElem?_eq_none (by rw [flatK_length, List.length_take]; omega)]
theorem rowK_cut {w : World} {base : Nat} {e : TypeId} {g n cap i m : Nat} {xs : List Value} (h : w.ownsRow base e m (.slice (some ⟨g, 0, none⟩) n cap) n xs) (hi : i ≤ n) : w.ownsRow base e m (.slice (some ⟨g, 0, none⟩) i cap) i (xs.take (i * m)) := by
 rcases h.2 with ⟨h', _⟩ | ⟨g', cap', cur, h', hb, hg, hnc, hcm, hcs, htake⟩
 · cases h'
 · injection h' with e1 _ e3
   injection e1 with e1
   injection e1 with e1
   subst e1 e3
   have hl := h.1
   have hm : i * m ≤ n * m := Nat.mul_le_mul_right _ hi
   refine ⟨by rw [List.length_take, hl]; omega, .inr ⟨g, cap, cur, rfl, hb, hg, by omega, hcm, hcs, ?_⟩⟩
   rw [← htake, List.take_take]
   congr 1
   omega
theorem rowK_past {base : Nat} {e : TypeId} {g n cap m : Nat} {xs : List Value} : ∀ (vs : List Value) (s : Nat) (w : World), w.ownsRow base e m (.slice (some ⟨g, 0, none⟩) n cap) n xs → n * m ≤ s → (w.setCells g s vs).ownsRow base e m (.slice (some ⟨g, 0, none⟩) n cap) n xs
  | [], s, w, h, _ => h
  | v :: r, s, w, h, hs => by
    have k := (h.stored s v).1
    rw [List.set_eq_of_length_le (by rw [h.1]; exact hs)] at k
    exact rowK_past r (s + 1) _ k (by omega)
theorem belowK_set {B g : Nat} (hg : B ≤ g) : ∀ (vs : List Value) (s : Nat) (w x : World), Below B w x → Below B w (x.setCells g s vs)
 | [], s, w, x, h => h
 | v :: r, s, w, x, h => belowK_set hg r (s + 1) w _ (h.setCell (by exact hg) v)
/-- What a row holds can be read. -/
theorem rowK_kls {w : World} {base B g n cap : Nat} {e : TypeId} {G : List G14} {K : List Kn} (h : w.ownsRow base e 14 (.slice (some ⟨g, 0, none⟩) n cap) n (flatK G)) (hv : VK B w G K) (hB : B ≤ w.heap.size) : Kls w.heap.size w (some ⟨g, 0, none⟩) K := by
 intro i hi
 have hl := h.1
 rw [flatK_length] at hl
 have hgl := hv.len
 have hz := (h.lt g rfl).2
 have hi' : i < G.length := by omega
 have hgi := hv.get hi' hi
 obtain ⟨sa, sc, e, s⟩ := hv.at' i hi'
 have hc : ∀ j u, (cs14 G[i])[j]? = some u → w.cell? ⟨g, 0 + i * 14 + j, none⟩ = some u := fun j u hu => by
   have hj := (List.getElem?_eq_some_iff.1 hu).1
   rw [cs14_length] at hj
   rw [Nat.zero_add]
   exact (h.cellAt _ (by omega)).trans ((flatK_get G i hi' j hj).trans hu)
 rw [← hgi]
 refine ⟨g, 0, sa, sc, rfl, hz, fun j u hu => hc j u ?_, ?_, s.up hB⟩
 · unfold cs14
   rw [List.getElem?_append_left (List.getElem?_eq_some_iff.1 hu).1]
   exact hu
 · exact (hc 13 G[i].2 rfl).trans (by rw [e])
theorem iv_smpE {w : World} {lo : Nat} {a : Option Addr} {n c : Nat} {xs : List Int} (h : IV w lo (.slice a n c) xs) : ISmp w.heap.size w a xs := by
 rcases h with ⟨g, cap, e, h1, h2, f, hc⟩ | ⟨e, rfl⟩
 · injection e with e1 e2 e3
   subst e1
   exact fun i hi => ⟨g, 0, rfl, h2, by rw [Nat.zero_add]; exact f.got i hi hi⟩
 · exact fun i hi => by cases hi
set_option maxHeartbeats 4000000 in
theorem idsOf_any {w : World} {a : Option Addr} (cap : Nat) {K : List Kn} (h : Kls w.heap.size w a K) (hl : K.length ≤ 1048576) :
   Calls Tryz.prog 79 #[.slice a K.length cap] w fun e w' => ∃ u c, e = .returned (.slice u K.length c) ∧ ISmp w'.heap.size w' u (idsK K) ∧ Below w.heap.size w w' := by
 obtain ⟨j0, hj, jz0, jz1, jz2⟩ := info_parts info_i64
 have hli : (K.length : Int) ≤ 1048576 := by omega
 go_enter Tryz.func79, Tryz.ntmps79
 go_wp2
 go_loopw [3, 8] (fun s3 s8 wr => ∃ k : Nat, s8 = .int .i64 k ∧ k ≤ K.length ∧ Hid (wr.ownsRow w.heap.size 2 1 s3 k (flatI (idsK (K.take k)))) ∧ Below w.heap.size w wr) (fun _ s8 _ => K.length - (intOf s8).toNat)
 case atStart => exact ⟨0, rfl, by omega, ⟨rfl, .inl ⟨rfl, rfl⟩⟩, Below.refl _ _⟩
 case round =>
   obtain ⟨k, rfl, hk, HO, hbw⟩ := hrel
   obtain ⟨av, cv, hsv⟩ := own_slice HO.out
   subst hsv
   by_cases hlt : k < K.length
   · have hlt' : (k : Int) < (K.length : Int) := by omega
     obtain ⟨b, off, sa, sc, hak, hbl, d0, d13, sm⟩ := h.at hbw k hlt
     subst hak
     obtain ⟨c, hc⟩ : ∃ c, K[k] = c := ⟨_, rfl⟩
     have HX : Hid (K[k] = c) := hc
     rw [hc] at d0 d13 sm
     clear hc
     have e0 : wr.cell? ⟨b, off + k * 14, none⟩ = some (.int .i64 c.id) := d0 0 _ rfl
     have e1 : wr.cell? ⟨b, off + k * 14 + 1, none⟩ = some (.int .i64 c.lf) := d0 1 _ rfl
     have e2 : wr.cell? ⟨b, off + k * 14 + 2, none⟩ = some (.int .i64 c.pl) := d0 2 _ rfl
     have e3 : wr.cell? ⟨b, off + k * 14 + 3, none⟩ = some (.int .i64 c.k) := d0 3 _ rfl
     have e4 : wr.cell? ⟨b, off + k * 14 + 4, none⟩ = some (.int .i64 c.wn) := d0 4 _ rfl
     have e5 : wr.cell? ⟨b, off + k * 14 + 5, none⟩ = some (.int .i64 c.th) := d0 5 _ rfl
     have e6 : wr.cell? ⟨b, off + k * 14 + 6, none⟩ = some (.int .i64 c.fl) := d0 6 _ rfl
     have e7 : wr.cell? ⟨b, off + k * 14 + 7, none⟩ = some (.int .i64 c.ac) := d0 7 _ rfl
     have e8 : wr.cell? ⟨b, off + k * 14 + 8, none⟩ = some (.int .i64 c.la) := d0 8 _ rfl
     have e9 : wr.cell? ⟨b, off + k * 14 + 9, none⟩ = some (.int .i64 c.og) := d0 9 _ rfl
     have e10 : wr.cell? ⟨b, off + k * 14 + 10, none⟩ = some (.int .i64 c.st) := d0 10 _ rfl
     have e11 : wr.cell? ⟨b, off + k * 14 + 11, none⟩ = some (.int .i64 c.fr) := d0 11 _ rfl
     have e12 : wr.cell? ⟨b, off + k * 14 + 12, none⟩ = some (.bool c.sl) := d0 12 _ rfl
     have e13 : wr.cell? ⟨b, off + k * 14 + 13, none⟩ = some (.slice sa c.xs.length sc) := d13
     have HN : Hid (flatI (idsK (K.take (k + 1))) = flatI (idsK (K.take k)) ++ flatI [c.id]) := by
       show flatI (idsK (K.take (k + 1))) = _
       rw [take_next K hlt, idsK_append, flatI_append, HX.out]
       rfl
     go_upto_region 5 with (fail)
     obtain ⟨y, hy⟩ : ∃ y, y = wr.alloc (.cells #[.int .i64 c.id, .int .i64 c.lf, .int .i64 c.pl, .int .i64 c.k, .int .i64 c.wn, .int .i64 c.th, .int .i64 c.fl, .int .i64 c.ac, .int .i64 c.la, .int .i64 c.og, .int .i64 c.st, .int .i64 c.fr, .bool c.sl, .slice sa c.xs.length sc] 66) := ⟨_, rfl⟩
     rw [← hy]
     have y0 : Lay y wr.heap.size [.int .i64 c.id, .int .i64 c.lf, .int .i64 c.pl, .int .i64 c.k, .int .i64 c.wn, .int .i64 c.th, .int .i64 c.fl, .int .i64 c.ac, .int .i64 c.la, .int .i64 c.og, .int .i64 c.st, .int .i64 c.fr, .bool c.sl, .slice sa c.xs.length sc] := by rw [hy]; exact lay_new [.int .i64 c.id, .int .i64 c.lf, .int .i64 c.pl, .int .i64 c.k, .int .i64 c.wn, .int .i64 c.th, .int .i64 c.fl, .int .i64 c.ac, .int .i64 c.la, .int .i64 c.og, .int .i64 c.st, .int .i64 c.fr, .bool c.sl, .slice sa c.xs.length sc] _ rfl
     have b1 : Below wr.heap.size wr y := by rw [hy]; exact new_below _ _
     clear hy
     have f0 : y.cell? ⟨wr.heap.size, 0, none⟩ = some (.int .i64 c.id) := y0.cell 0 _ rfl
     have HO1 := row_next HO.out b1
     have bwy := below_two hbw b1
     have zz := bwy.size
     go_wp2_with (first
       | (at_builtin; refine wpList_append_own _ rfl _ _ 56 rfl w.heap.size 2 j0 _ 1 8 Tryz.underlying56 hj jz0 jz1 jz2 rfl (by decide) _ _ _ rfl (HO1.alloc _) ⟨y.heap.size, 0, none⟩ 1 1 [.int .i64 c.id] rfl rfl ?c1 ?c2 ?c3 ?c4 ?c5 ?c6; rotate_left 5; intro v' w' hown' hgr hnil; have hb2 := below_app bwy hgr (fun g hg => (HO.out.lt g hg).1)))
     case c1 => exact one_news (by go_simp)
     case c2 => exact flatI_one [c.id]
     case c3 => unfold maxLen; omega
     case c4 => omega
     case c5 => simp; omega
     go_roundw
     case rel => exact ⟨k + 1, by go_num, by omega, (by rw [HN.out]; exact hown'), hb2⟩
     case measure => first | (simp [intOf]; done) | (simp [intOf]; omega)
   · have e : k = K.length := by omega
     subst e
     have HE : Hid (IV wr w.heap.size (.slice av K.length cv) (idsK K)) := by
       have q := HO.out
       rw [List.take_length] at q
       rw [show K.length = (idsK K).length from (idsK_length K).symm] at q ⊢
       exact own_ints q
     go_wp2
     go_ret
     exact ⟨av, cv, rfl, iv_smpE HE.out, hbw⟩
theorem flK_bd {K : List Kn} (h : ∀ c ∈ K, 0 ≤ c.fl ∧ c.fl ≤ 1000000000) : 0 ≤ flK K ∧ flK K ≤ 1000000000 * (K.length : Int) := by
 induction K with
 | nil => simp [flK]
 | cons c r ih =>
   have h1 := h c (List.mem_cons_self ..)
   have h2 := ih (fun x hx => h x (List.mem_cons_of_mem _ hx))
   simp only [flK, List.length_cons]
   omega
set_option maxHeartbeats 4000000 in
theorem flightOf_any {w : World} {a : Option Addr} (cap : Nat) {K : List Kn} (h : Kls w.heap.size w a K) (hl : K.length ≤ 40) (hb : ∀ c ∈ K, 0 ≤ c.fl ∧ c.fl ≤ 1000000000) :
   Calls Tryz.prog 143 #[.slice a K.length cap] w fun e w' => e = .returned (.int .i64 (flK K)) ∧ Below w.heap.size w w' := by
 have hli : (K.length : Int) ≤ 40 := by omega
 have HB : Hid (∀ c ∈ K, 0 ≤ c.fl ∧ c.fl ≤ 1000000000) := hb
 clear hb
 go_enter Tryz.func143, Tryz.ntmps143
 go_wp2
 go_loopw [3, 8] (fun s3 s8 wr => ∃ k : Nat, s8 = .int .i64 k ∧ k ≤ K.length ∧ s3 = .int .i64 (flK (K.take k)) ∧ Below w.heap.size w wr) (fun _ s8 _ => K.length - (intOf s8).toNat)
 case atStart => exact ⟨0, rfl, by omega, rfl, Below.refl _ _⟩
 case round =>
   obtain ⟨k, rfl, hk, rfl, hbw⟩ := hrel
   by_cases hlt : k < K.length
   · have hlt' : (k : Int) < (K.length : Int) := by omega
     obtain ⟨b, off, sa, sc, hak, hbl, d0, d13, sm⟩ := h.at hbw k hlt
     subst hak
     obtain ⟨c, hc⟩ : ∃ c, K[k] = c := ⟨_, rfl⟩
     have HX : Hid (K[k] = c) := hc
     rw [hc] at d0 d13 sm
     clear hc
     have e0 : wr.cell? ⟨b, off + k * 14, none⟩ = some (.int .i64 c.id) := d0 0 _ rfl
     have e1 : wr.cell? ⟨b, off + k * 14 + 1, none⟩ = some (.int .i64 c.lf) := d0 1 _ rfl
     have e2 : wr.cell? ⟨b, off + k * 14 + 2, none⟩ = some (.int .i64 c.pl) := d0 2 _ rfl
     have e3 : wr.cell? ⟨b, off + k * 14 + 3, none⟩ = some (.int .i64 c.k) := d0 3 _ rfl
     have e4 : wr.cell? ⟨b, off + k * 14 + 4, none⟩ = some (.int .i64 c.wn) := d0 4 _ rfl
     have e5 : wr.cell? ⟨b, off + k * 14 + 5, none⟩ = some (.int .i64 c.th) := d0 5 _ rfl
     have e6 : wr.cell? ⟨b, off + k * 14 + 6, none⟩ = some (.int .i64 c.fl) := d0 6 _ rfl
     have e7 : wr.cell? ⟨b, off + k * 14 + 7, none⟩ = some (.int .i64 c.ac) := d0 7 _ rfl
     have e8 : wr.cell? ⟨b, off + k * 14 + 8, none⟩ = some (.int .i64 c.la) := d0 8 _ rfl
     have e9 : wr.cell? ⟨b, off + k * 14 + 9, none⟩ = some (.int .i64 c.og) := d0 9 _ rfl
     have e10 : wr.cell? ⟨b, off + k * 14 + 10, none⟩ = some (.int .i64 c.st) := d0 10 _ rfl
     have e11 : wr.cell? ⟨b, off + k * 14 + 11, none⟩ = some (.int .i64 c.fr) := d0 11 _ rfl
     have e12 : wr.cell? ⟨b, off + k * 14 + 12, none⟩ = some (.bool c.sl) := d0 12 _ rfl
     have e13 : wr.cell? ⟨b, off + k * 14 + 13, none⟩ = some (.slice sa c.xs.length sc) := d13
     obtain ⟨s, hs⟩ : ∃ s, flK (K.take k) = s := ⟨_, rfl⟩
     have HN : Hid (flK (K.take (k + 1)) = s + c.fl) := by
       show flK (K.take (k + 1)) = _
       rw [take_next K hlt, flK_append, hs, HX.out]
       simp [flK]
     have hs1 : 0 ≤ s ∧ s ≤ 1000000000 * (k : Int) := by
       have q := flK_bd (K := K.take k) (fun x hx => HB.out x (List.mem_of_mem_take hx))
       rw [hs, List.length_take, Nat.min_eq_left hk] at q
       exact q
     have hc1 : 0 ≤ c.fl ∧ c.fl ≤ 1000000000 := by
       have q := HB.out K[k] (List.getElem_mem hlt)
       rw [HX.out] at q
       exact q
     have hwr : IntKind.i64.wrap (s + c.fl) = s + c.fl := by rw [IntKind.wrap_i64]; omega
     rw [hs]
     clear hs hs1 hc1
     go_upto_region 5 with (fail)
     obtain ⟨y, hy⟩ : ∃ y, y = wr.alloc (.cells #[.int .i64 c.id, .int .i64 c.lf, .int .i64 c.pl, .int .i64 c.k, .int .i64 c.wn, .int .i64 c.th, .int .i64 c.fl, .int .i64 c.ac, .int .i64 c.la, .int .i64 c.og, .int .i64 c.st, .int .i64 c.fr, .bool c.sl, .slice sa c.xs.length sc] 66) := ⟨_, rfl⟩
     rw [← hy]
     have y0 : Lay y wr.heap.size [.int .i64 c.id, .int .i64 c.lf, .int .i64 c.pl, .int .i64 c.k, .int .i64 c.wn, .int .i64 c.th, .int .i64 c.fl, .int .i64 c.ac, .int .i64 c.la, .int .i64 c.og, .int .i64 c.st, .int .i64 c.fr, .bool c.sl, .slice sa c.xs.length sc] := by rw [hy]; exact lay_new [.int .i64 c.id, .int .i64 c.lf, .int .i64 c.pl, .int .i64 c.k, .int .i64 c.wn, .int .i64 c.th, .int .i64 c.fl, .int .i64 c.ac, .int .i64 c.la, .int .i64 c.og, .int .i64 c.st, .int .i64 c.fr, .bool c.sl, .slice sa c.xs.length sc] _ rfl
     have b1 : Below wr.heap.size wr y := by rw [hy]; exact new_below _ _
     clear hy
     have f0 : y.cell? ⟨wr.heap.size, 6, none⟩ = some (.int .i64 c.fl) := y0.cell 6 _ rfl
     go_wp2
     go_roundw
     case rel => exact ⟨k + 1, by go_num, by omega, by rw [HN.out], below_two hbw b1⟩
     case measure => first | (simp [intOf]; done) | (simp [intOf]; omega)
   · have e : k = K.length := by omega
     subst e
     rw [List.take_length]
     go_wp2
     go_ret
     exact ⟨rfl, hbw⟩
theorem info_connI : (Tryz.prog.info? 66).map (fun i => (i.zero, i.size, i.bytes)) = some (some (.agg #[.int .i64 0, .int .i64 0, .int .i64 0, .int .i64 0, .int .i64 0, .int .i64 0, .int .i64 0, .int .i64 0, .int .i64 0, .int .i64 0, .int .i64 0, .int .i64 0, .bool false, .slice none 0 0]), 14, 128) := by kernel_rfl
/-- A row of connections of the call's own; their lists lie where they lay. -/
def ConnPost (B : Nat) (w : World) (K : List Kn) (e : Ending) (w' : World) : Prop := ∃ v G, e = .returned v ∧ VK B w G K ∧ w'.ownsRow w.heap.size 66 14 v K.length (flatK G) ∧ Below w.heap.size w w'
set_option maxHeartbeats 2000000 in
theorem cloneK_any {B : Nat} {w : World} {a : Option Addr} (cap : Nat) {K : List Kn} (h : Kls B w a K) (hB : B ≤ w.heap.size) (hl : K.length ≤ 1048576) :
   Calls Tryz.prog 88 #[.slice a K.length cap] w (ConnPost B w K) := by
 obtain ⟨i0, hi, hz0, hz1, hz2⟩ := info_parts info_connI
 have q : ∀ (w : World) (a : Option Addr) (n c n' c' : Nat), (binOp .eql 36 (.slice a n c) (.slice none n' c')).run Tryz.prog w = .ok (.bool a.isNone) w := fun w a n c n' c' => Lib.run_eql_slice_nil w _ _ a n c n' c' Tryz.underlying36
 cases a with
 | none =>
   have hx : K = [] := by
     cases K with
     | nil => rfl
     | cons x r => obtain ⟨b, off, sa, sc, e, _⟩ := h 0 (by simp); cases e
   subst hx
   go_enter Tryz.func88, Tryz.ntmps88
   go_wp2
   go_ret
   exact ⟨_, [], rfl, ⟨rfl, fun i hi => by cases hi⟩, ⟨rfl, .inl ⟨rfl, rfl⟩⟩, Below.refl _ _⟩
 | some ad =>
   have HG : ∃ G, VK B w G K ∧ ∀ j u, (flatK G)[j]? = some u → (w.alloc (.cells #[] 66)).cell? (ad.add j) = some u := by
     by_cases hn : 0 < K.length
     · obtain ⟨b, off, G, e, hb, hV, hN⟩ := h.vals hn
       injection e with e
       subst e
       refine ⟨G, hV, fun j u hj => ?_⟩
       have hc := hN j u hj
       rw [addr_add] at hc ⊢
       exact ((new_below w (.cells #[] 66)).cell (p := ⟨b, off + j, none⟩) (Nat.lt_of_lt_of_le hb hB)).trans hc
     · obtain rfl : K = [] := List.eq_nil_of_length_eq_zero (by omega)
       exact ⟨[], ⟨rfl, fun i hi => by cases hi⟩, fun j u hj => by cases hj⟩
   obtain ⟨G, hV, hA⟩ := HG
   have A : Hid (∀ j u, (flatK G)[j]? = some u → (w.alloc (.cells #[] 66)).cell? (ad.add j) = some u) := hA
   have hgl := hV.len
   have ON : Hid ((w.alloc (.cells #[] 66)).ownsRow w.heap.size 66 14 (.slice (some ⟨w.heap.size, 0, none⟩) 0 0) 0 []) := ⟨rfl, .inr ⟨w.heap.size, 0, #[], rfl, Nat.le_refl _, heap_alloc_new _ _, Nat.le_refl _, by unfold maxLen; omega, rfl, rfl⟩⟩
   have HV1 : Hid (∀ u ∈ flatK G, u.oneCell' = true) := hV.one
   have HV : Hid (VK B w G K) := hV
   have HL : Hid ((flatK G).length = K.length * 14) := by rw [flatK_length, hgl]; exact rfl
   clear hA hV hgl
   go_enter Tryz.func88, Tryz.ntmps88
   go_wp2_with (at_builtin; refine wpList_append_own _ rfl _ _ 36 rfl w.heap.size 66 i0 _ 14 128 Tryz.underlying36 hi hz0 hz1 hz2 rfl (by decide) _ 0 [] rfl ON.out ad K.length cap (flatK G) rfl HL.out A.out HV1.out (by unfold maxLen; omega) (by omega) (by simp) ?_; intro v' w1 hown hgr hnil)
   go_ret
   have hbw : Below w.heap.size w w1 := ((Below.refl _ w).alloc (Nat.le_refl _) _).grown hgr (by simp) (fun k hk => Nat.le_of_eq (Option.some.inj hk))
   rw [Nat.zero_add, List.nil_append] at hown
   exact ⟨v', G, rfl, HV.out, hown, hbw⟩
set_option maxHeartbeats 4000000 in
theorem sEqual_any {w : World} {a b : Option Addr} (ca cb : Nat) {xs ys : List Int} (h : ISmp w.heap.size w a xs) (h' : ISmp w.heap.size w b ys) (hl : xs.length ≤ 1048576) (hl' : ys.length ≤ 1048576) :
   Calls Tryz.prog 144 #[.slice a xs.length ca, .slice b ys.length cb] w fun e w' => e = .returned (.bool (decide (xs = ys))) ∧ Below w.heap.size w w' := by
 by_cases hn : xs.length = ys.length
 rotate_left
 · have HD : Hid (decide (xs = ys) = false) := decide_eq_false (fun e => hn (by rw [e]))
   have hn' : ((xs.length : Int) == (ys.length : Int)) = false := by rw [beq_eq_false_iff_ne]; omega
   clear hn
   go_enter Tryz.func144, Tryz.ntmps144
   go_wp2
   go_ret
   exact ⟨retC HD.out.symm, Below.refl _ _⟩
 have HN : Hid (xs.length = ys.length) := hn
 have hli : (xs.length : Int) ≤ 1048576 := by omega
 rw [← hn]
 clear hn hl'
 go_enter Tryz.func144, Tryz.ntmps144
 go_wp2
 go_loopw [13] (fun s wr => ∃ k : Nat, s = .int .i64 k ∧ k ≤ xs.length ∧ Hid (∀ j (h : j < xs.length) (h' : j < ys.length), j < k → xs[j] = ys[j]) ∧ Below w.heap.size w wr) (fun s _ => xs.length - (intOf s).toNat)
 case atStart => exact ⟨0, rfl, by omega, (fun j h h' k => by omega), Below.refl _ _⟩
 case round =>
   obtain ⟨k, rfl, hk, HE, hbw⟩ := hrel
   by_cases hlt : k < xs.length
   · have hlt' : (k : Int) < (xs.length : Int) := by omega
     have hk2 : k < ys.length := by have := HN.out; omega
     obtain ⟨b1, o1, hak, hb1, c0⟩ := h.at hbw k hlt
     obtain ⟨b2, o2, hak2, hb2, c1⟩ := h'.at hbw k hk2
     subst hak hak2
     obtain ⟨x, hx⟩ : ∃ x, xs[k] = x := ⟨_, rfl⟩
     obtain ⟨y, hy⟩ : ∃ y, ys[k] = y := ⟨_, rfl⟩
     have HX : Hid (xs[k] = x) := hx
     have HY : Hid (ys[k] = y) := hy
     rw [hx] at c0
     rw [hy] at c1
     clear hx hy
     by_cases he : x = y
     · subst he
       go_wp2
       go_quiet (fail)
       go_wp2
       go_roundw
       case rel =>
         refine ⟨k + 1, by go_num, by omega, fun j hj hj' hjk => ?_, below_drews hbw _⟩
         by_cases e : j = k
         · subst e; rw [HX.out, HY.out]
         · exact HE.out j hj hj' (by omega)
       case measure => first | (simp [intOf]; done) | (simp [intOf]; omega)
     · have he' : (x == y) = false := by simp [he]
       have HD : Hid (decide (xs = ys) = false) := decide_eq_false (fun e => he (by
         have q : xs[k]? = ys[k]? := by rw [e]
         rw [List.getElem?_eq_getElem hlt, List.getElem?_eq_getElem hk2, HX.out, HY.out] at q
         exact Option.some.inj q))
       clear he
       go_wp2
       go_quiet (fail)
       go_wp2
       go_ret
       exact ⟨retC HD.out.symm, below_drews hbw _⟩
   · have e : k = xs.length := by omega
     subst e
     have HD : Hid (decide (xs = ys) = true) := decide_eq_true (List.ext_getElem HN.out (fun j h1 h2 => HE.out j h1 h2 h1))
     go_wp2
     go_ret
     exact ⟨retC HD.out.symm, hbw⟩
/-- Connections that are appended one by one, each list a row of its own. -/
structure CpK (w : World) (lo : Nat) (sK : Value) (G : List G14) (K : List Kn) : Prop where
 row : w.ownsRow lo 66 14 sK K.length (flatK G)
 fst : G.map Prod.fst = K
 ints : ∀ i (h : i < G.length), w.ownsRow lo 2 1 G[i].2 G[i].1.xs.length (flatI G[i].1.xs)
 sep : ∀ i (h' : i < G.length) b, G[i].2.ownBlock = some b → b < w.heap.size ∧ ∀ j (hj : j < G.length), j ≠ i → G[j].2.ownBlock ≠ some b
theorem CpK.len {w : World} {lo : Nat} {sK : Value} {G : List G14} {K : List Kn} (h : CpK w lo sK G K) : G.length = K.length := by rw [← h.fst, List.length_map]
theorem CpK.zero (w : World) (lo : Nat) : CpK w lo (.slice none 0 0) [] [] := ⟨⟨rfl, .inl ⟨rfl, rfl⟩⟩, rfl, (fun i h => by cases h), (fun i h => by cases h)⟩
theorem CpK.next {w w' : World} {lo : Nat} {sK : Value} {G : List G14} {K : List Kn} (h : CpK w lo sK G K) (hb : Below w.heap.size w w') : CpK w' lo sK G K :=
 ⟨row_next h.row hb, h.fst, fun i h1 => row_next (h.ints i h1) hb, fun i k b e => ⟨Nat.lt_of_lt_of_le (h.sep i k b e).1 hb.size, (h.sep i k b e).2⟩⟩
theorem CpK.set {w : World} {lo : Nat} {sK : Value} {G : List G14} {K : List Kn} (h : CpK w lo sK G K) {b i : Nat} (v : Value) (hb : b < lo) : CpK (w.setCell ⟨b, i, none⟩ v) lo sK G K :=
 ⟨row_set h.row hb, h.fst, fun i h1 => row_set (h.ints i h1) hb, fun i k b e => ⟨by simpa using (h.sep i k b e).1, (h.sep i k b e).2⟩⟩
/-- A connection more is appended. -/
theorem CpK.push {w w' : World} {lo : Nat} {sK sK' : Value} {G : List G14} {K : List Kn} {c : Kn} {v : Value} (h : CpK w lo sK G K) (hv : w.ownsRow lo 2 1 v c.xs.length (flatI c.xs)) (hn : ∀ b, v.ownBlock = some b → b < w.heap.size ∧ ∀ j (hj : j < G.length), G[j].2.ownBlock ≠ some b)
   (hr : w'.ownsRow lo 66 14 sK' (K.length + 1) (flatK G ++ cs14 (c, v))) (hg : w.grownBy w' sK.ownBlock) : CpK w' lo sK' (G ++ [(c, v)]) (K ++ [c]) := by
 have hlen := h.len
 have hty : (2 : TypeId) ≠ 66 := by decide
 have keep : ∀ {u : Value} {m : Nat} {ys : List Value}, w.ownsRow lo 2 1 u m ys → w'.ownsRow lo 2 1 u m ys := fun hu => hu.kept (row := sK.ownBlock) hg (rows_keep hu h.row hty)
 have atG : ∀ i (hi : i < (G ++ [(c, v)]).length), (∃ h' : i < G.length, (G ++ [(c, v)])[i] = G[i]) ∨ (i = G.length ∧ (G ++ [(c, v)])[i] = (c, v)) := fun i hi => by
   by_cases e : i < G.length
   · exact .inl ⟨e, List.getElem_append_left e⟩
   · have e2 : i = G.length := by simp at hi; omega
     refine .inr ⟨e2, ?_⟩
     subst e2
     simp
 refine ⟨?_, by rw [List.map_append, h.fst]; rfl, fun i h1 => ?_, fun i h2 b e => ?_⟩
 · rw [flatK_append, List.length_append]
   have e : flatK [(c, v)] = cs14 (c, v) := by simp [flatK]
   rw [e]
   exact hr
 · rcases atG i h1 with ⟨k, e⟩ | ⟨k, e⟩
   · rw [e]
     exact keep (h.ints i k)
   · rw [e]
     exact keep hv
 · rcases atG i h2 with ⟨k, e1⟩ | ⟨k, e1⟩
   · rw [e1] at e
     obtain ⟨s1, s2⟩ := h.sep i k b e
     refine ⟨Nat.lt_of_lt_of_le s1 hg.size, fun j hj hne => ?_⟩
     rcases atG j hj with ⟨k2, e2⟩ | ⟨k2, e2⟩
     · rw [e2]; exact s2 j k2 hne
     · rw [e2]; intro e'; exact (hn b e').2 i k e
   · rw [e1] at e
     obtain ⟨s1, s2⟩ := hn b e
     refine ⟨Nat.lt_of_lt_of_le s1 hg.size, fun j hj hne => ?_⟩
     rcases atG j hj with ⟨k2, e2⟩ | ⟨k2, e2⟩
     · rw [e2]; exact s2 j k2
     · omega
theorem CpK.ko {w : World} {lo g cap : Nat} {G : List G14} {K : List Kn} (h : CpK w lo (.slice (some ⟨g, 0, none⟩) K.length cap) G K) : KO w lo w.heap.size g K.length (G.map (·.2)) K := by
 have hg := h.row.lt g rfl
 have hty : (2 : TypeId) ≠ 66 := by decide
 have hlen := h.len
 have hat : ∀ i (h1 : i < G.length) (h2 : i < K.length), G[i].1 = K[i] := fun i h1 h2 => by
   have : (G.map Prod.fst)[i]? = K[i]? := by rw [h.fst]
   rw [List.getElem?_map, List.getElem?_eq_getElem h1, List.getElem?_eq_getElem h2] at this
   exact Option.some.inj this
 have at1 : ∀ i (hi : i < (G.map (·.2)).length), ∃ h' : i < G.length, (G.map (·.2))[i] = G[i].2 := fun i hi => ⟨by simpa using hi, by simp⟩
 refine ⟨hg.1, hg.2, Nat.le_refl _, by simp [hlen], Nat.le_refl _, fun j hj => ⟨?_, h.row.frozenAt j⟩, fun i h1 h2 => ?_, fun i h1 h2 => ?_, fun i h2 e => ?_, fun i j h2 h3 hne b e e' => ?_⟩
 · have hl : j < (flatK G).length := by rw [flatK_length, hlen]; exact hj
   exact ⟨_, (h.row.cellAt j hj).trans (List.getElem?_eq_getElem hl)⟩
 · obtain ⟨k, e⟩ := at1 i h2
   have ek := hat i k h1
   have hc : ∀ j u, (cs14 G[i])[j]? = some u → w.cell? ⟨g, i * 14 + j, none⟩ = some u := fun j u hu => by
     have hj := (List.getElem?_eq_some_iff.1 hu).1
     rw [cs14_length] at hj
     exact (h.row.cellAt _ (by omega)).trans ((flatK_get G i k j hj).trans hu)
   rw [e, ← ek]
   refine ⟨fun j u hu => hc j u ?_, hc 13 _ rfl⟩
   unfold cs14
   rw [List.getElem?_append_left (List.getElem?_eq_some_iff.1 hu).1]
   exact hu
 · obtain ⟨k, e⟩ := at1 i h2
   rw [e, ← hat i k h1]
   exact (own_ints (h.ints i k)).io
 · obtain ⟨k, e1⟩ := at1 i h2
   rw [e1] at e
   have o := h.ints i k
   exact rows_apart o h.row hty g (el_own o e) rfl
 · obtain ⟨k, e1⟩ := at1 i h2
   obtain ⟨k2, e2⟩ := at1 j h3
   rw [e1] at e
   rw [e2] at e'
   exact (h.sep i k b (el_own (h.ints i k) e)).2 j k2 (fun e => hne e.symm) (el_own (h.ints j k2) e')
theorem CpK.kv {w : World} {lo n cap : Nat} {a : Option Addr} {G : List G14} {K : List Kn} (h : CpK w lo (.slice a n cap) G K) (hl : n = K.length) : KV w lo w.heap.size (.slice a n cap) K := by
 subst hl
 rcases h.row.2 with ⟨e, e2⟩ | ⟨g, cap', cur, e, _, _, hc, _⟩
 · injection e with e1 _ e3
   subst e1 e3
   have hn : K = [] := List.eq_nil_of_length_eq_zero e2
   subst hn
   exact .inr ⟨rfl, none, 0, rfl⟩
 · injection e with e1 _ e3
   subst e1 e3
   exact .inl ⟨g, cap, G.map (·.2), rfl, hc, h.ko⟩
/-- An Engine of the call's own, and something beside it. -/
def EgPost (w : World) (now nx : Int) (T O P : List Q4) (L : List F8) (K : List Kn) (x : Value) (e : Ending) (w' : World) : Prop := ∃ aT cT aO cO aP cP aL cL aK cK, e = .returned (.tuple #[engV now aT T.length cT aO O.length cO aP P.length cP aL L.length cL aK K.length cK nx, x]) ∧ Eng w' w.heap.size w'.heap.size (.slice aT T.length cT) (.slice aO O.length cO) (.slice aP P.length cP) (.slice aL L.length cL) (.slice aK K.length cK) T O P L K ∧ Below w.heap.size w w'
theorem eng_zero {w : World} {lo hi : Nat} (h1 : lo ≤ hi) (h2 : hi ≤ w.heap.size) : Eng w lo hi (.slice none 0 0) (.slice none 0 0) (.slice none 0 0) (.slice none 0 0) (.slice none 0 0) [] [] [] [] [] :=
 Eng.ofI ⟨lo, lo, lo, lo, lo, lo, ⟨Nat.le_refl _, Nat.le_refl _, Nat.le_refl _⟩, ⟨h1, h1, h1⟩, LV.zero _ _, (fun b hb => by rcases hb with e | e | e <;> cases e), TV.zero _ _ _ _ _, KV.zero _ _ _ _ _, .inl (Nat.le_refl _), .inl (Nat.le_refl _), .inl (Nat.le_refl _), by omega, by omega, by omega⟩
theorem Lay.onlyO {u u' : World} {b : Nat} {o : Option Nat} {vs : List Value} (h : Lay u b vs) (ho : OnlyO o u u') (hne : o ≠ some b) : Lay u' b vs :=
 ⟨fun j v hv => (ho.cell (p := ⟨b, j, none⟩) h.lt hne).trans (h.cell j v hv), fun k => (ho.frozen (p := ⟨b, k, none⟩) h.lt hne).trans (h.free k), Nat.lt_of_lt_of_le h.lt ho.size⟩
theorem app_only {y wr w' : World} {g : Nat} {o : Obj} {row : Option Nat} (h : OnlyO (some g) y wr) (hg : (wr.alloc o).grownBy w' row) (hr : ∀ g', row = some g' → y.heap.size ≤ g') : OnlyO (some g) y w' := by
 have hz := h.size
 have b : Below y.heap.size wr w' := ((Below.refl wr.heap.size wr).alloc (Nat.le_refl _) o).mono hz |>.grown hg (by simp; omega) hr
 exact ⟨b.os.trans h.os, b.tape.trans h.tape, b.output.trans h.output, Nat.le_trans h.size b.size, fun k hk hn => (b.block k hk).trans (h.block k hk hn)⟩
theorem lay_app {wr w' : World} {g : Nat} {o : Obj} {row : Option Nat} {vs : List Value} (h : Lay wr g vs) (hg : (wr.alloc o).grownBy w' row) (hr : ∀ g', row = some g' → g' ≠ g) : Lay w' g vs := by
 have b : Below wr.heap.size wr (wr.alloc o) := new_below _ _
 have h1 := h.next b
 have ho : OnlyO row (wr.alloc o) w' := ⟨hg.os, hg.tape, hg.output, hg.size, fun k hk hn => hg.block k hk (fun e => hn e.symm)⟩
 exact h1.onlyO ho (fun e => hr g e rfl)
theorem three_newsE {w : World} {g : Nat} {u0 u1 u2 : Value} (h0 : w.cell? ⟨g, 0, none⟩ = some u0) (h1 : w.cell? ⟨g, 1, none⟩ = some u1) (h2 : w.cell? ⟨g, 2, none⟩ = some u2) : ∀ j v, [u0, u1, u2][j]? = some v → w.cell? ((⟨g, 0, none⟩ : Addr).add j) = some v := by
 intro j v hv
 match j, hv with
 | 0, hv => obtain rfl : u0 = v := by simpa using hv
            exact h0
 | 1, hv => obtain rfl : u1 = v := by simpa using hv
            exact h1
 | 2, hv => obtain rfl : u2 = v := by simpa using hv
            exact h2
theorem lend_time {T O P : List Q4} (h : lendB T O P = true) : timeB (atOf O) = true := by
 have hl := lend_of h
 have h0 := hl.tree.l0
 have hp := (pair_ok (hl.pair 0 h0 (by rw [hl.lo]; exact h0) (by rw [hl.lp]; exact h0)))
 have := hp.oka
 rw [← hp.ta]
 unfold bokQ bokB at this
 simp only [Bool.and_eq_true] at this
 exact this.2
set_option maxHeartbeats 8000000 in
theorem specEng_no0 {w : World} (now nx : Int) {aT aO aP aL aK : Option Addr} (cT cO cP cL cK : Nat) {T O P : List Q4} {L : List F8} {K : List Kn} (hT : Quad w.heap.size w aT T) (hO : Quad w.heap.size w aO O) (hP : Quad w.heap.size w aP P) (hL : Fls w.heap.size w aL L) (hK : Kls w.heap.size w aK K) (mT : T.length ≤ 1048576) (mL : L.length ≤ 1048576) (mK : K.length ≤ 1048576) (sK : ∀ c ∈ K, c.xs.length ≤ maxLen) (h0 : timeB now = false) :
   Calls Tryz.prog 23 #[engV now aT T.length cT aO O.length cO aP P.length cP aL L.length cL aK K.length cK nx] w fun e w' => e = .returned (.bool (engB now nx T O P L K)) ∧ Below w.heap.size w w' := by
 obtain ⟨v, hv⟩ : ∃ v, v = w.alloc (.cells #[.int .i64 now, .slice aT T.length cT, .slice aO O.length cO, .slice aP P.length cP, .slice aL L.length cL, .slice aK K.length cK, .int .i64 nx] 38) := ⟨_, rfl⟩
 have nb : Below w.heap.size w v := by rw [hv]; go_grown
 have L0 : Lay v w.heap.size [.int .i64 now, .slice aT T.length cT, .slice aO O.length cO, .slice aP P.length cP, .slice aL L.length cL, .slice aK K.length cK, .int .i64 nx] := by rw [hv]; exact lay_new [.int .i64 now, .slice aT T.length cT, .slice aO O.length cO, .slice aP P.length cP, .slice aL L.length cL, .slice aK K.length cK, .int .i64 nx] _ rfl
 have HE : Hid (engB now nx T O P L K = false) := eg_false (fun h => by have q := lend_time h.lend; rw [h.at', h0] at q; cases q)
 go_enter Tryz.func23, Tryz.ntmps23
 go_upto_region 1 with (fail)
 rw [← hv]
 clear hv
 have HS : Hid (∀ x, Below v.heap.size v x → x.cell? ⟨w.heap.size, 0, none⟩ = some (.int .i64 now) ∧ x.cell? ⟨w.heap.size, 1, none⟩ = some (.slice aT T.length cT) ∧ x.cell? ⟨w.heap.size, 2, none⟩ = some (.slice aO O.length cO) ∧ x.cell? ⟨w.heap.size, 3, none⟩ = some (.slice aP P.length cP) ∧ x.cell? ⟨w.heap.size, 4, none⟩ = some (.slice aL L.length cL) ∧ x.cell? ⟨w.heap.size, 5, none⟩ = some (.slice aK K.length cK) ∧ x.cell? ⟨w.heap.size, 6, none⟩ = some (.int .i64 nx)) := fun x hx => ⟨(L0.next hx).cell 0 _ rfl, (L0.next hx).cell 1 _ rfl, (L0.next hx).cell 2 _ rfl, (L0.next hx).cell 3 _ rfl, (L0.next hx).cell 4 _ rfl, (L0.next hx).cell 5 _ rfl, (L0.next hx).cell 6 _ rfl⟩
 refine wp_region_held_drew (S := fun w' => w'.cell? ⟨w.heap.size, 0, none⟩ = some (.int .i64 now) ∧ w'.cell? ⟨w.heap.size, 1, none⟩ = some (.slice aT T.length cT) ∧ w'.cell? ⟨w.heap.size, 2, none⟩ = some (.slice aO O.length cO) ∧ w'.cell? ⟨w.heap.size, 3, none⟩ = some (.slice aP P.length cP) ∧ w'.cell? ⟨w.heap.size, 4, none⟩ = some (.slice aL L.length cL) ∧ w'.cell? ⟨w.heap.size, 5, none⟩ = some (.slice aK K.length cK) ∧ w'.cell? ⟨w.heap.size, 6, none⟩ = some (.int .i64 nx)) (by kernel_rfl) (HS.out _ (Below.refl _ _).drew) (fun hS => ?_)
 refine anyR 0 rfl ?_
 refine anyR 1 rfl ?_
 refine anyC 2 rfl fun Kr hKr => ?_
 go_simp
 (refine (sTime_is h0 _).mono ?_; rintro e w3 ⟨rfl, e3⟩; replace e3 := e3.symm; subst e3)
 refine hKr.out _ _ ‹_› fun _ => ?_
 try simp only [nrm]
 refine anyR 3 rfl ?_
 refine anyR 4 rfl ?_
 refine anyS 5 rfl ?_
 refine anyS 6 rfl ?_
 refine anyS 7 rfl ?_
 refine anyS 8 rfl ?_
 refine anyR 9 rfl ?_
 refine anyR 10 rfl ?_
 refine anyS 11 rfl ?_
 refine anyS 12 rfl ?_
 refine anyS 13 rfl ?_
 refine anyS 14 rfl ?_
 refine anyS 15 rfl ?_
 refine anyS 16 rfl ?_
 refine anyS 17 rfl ?_
 refine anyS 18 rfl ?_
 refine anyS 19 rfl ?_
 refine anyR 20 rfl ?_
 refine anyR 21 rfl ?_
 refine anyS 22 rfl ?_
 refine anyS 23 rfl ?_
 refine anyS 24 rfl ?_
 refine anyS 25 rfl ?_
 refine anyR 26 rfl ?_
 refine anyR 27 rfl ?_
 refine anyS 28 rfl ?_
 refine anyS 29 rfl ?_
 refine anyS 30 rfl ?_
 refine anyS 31 rfl ?_
 refine anyR 32 rfl ?_
 refine anyR 33 rfl ?_
 refine anyS 34 rfl ?_
 refine anyS 35 rfl ?_
 refine anyS 36 rfl ?_
 refine anyS 37 rfl ?_
 refine anyR 38 rfl ?_
 refine anyR 39 rfl ?_
 refine anyS 40 rfl ?_
 refine anyS 41 rfl ?_
 refine anyS 42 rfl ?_
 refine anyS 43 rfl ?_
 refine anyR 44 rfl ?_
 refine wpAnyH_done (by kernel_rfl) ?_ _
 go_wp2
 go_ret
 exact ⟨retC HE.out.symm, below_two nb ((Below.refl _ _).drew)⟩
set_option maxHeartbeats 8000000 in
theorem specEng_no1 {w : World} (now nx : Int) {aT aO aP aL aK : Option Addr} (cT cO cP cL cK : Nat) {T O P : List Q4} {L : List F8} {K : List Kn} (hT : Quad w.heap.size w aT T) (hO : Quad w.heap.size w aO O) (hP : Quad w.heap.size w aP P) (hL : Fls w.heap.size w aL L) (hK : Kls w.heap.size w aK K) (mT : T.length ≤ 1048576) (mL : L.length ≤ 1048576) (mK : K.length ≤ 1048576) (sK : ∀ c ∈ K, c.xs.length ≤ maxLen) (h0 : timeB now = true) (h1 : lendB T O P = false) :
   Calls Tryz.prog 23 #[engV now aT T.length cT aO O.length cO aP P.length cP aL L.length cL aK K.length cK nx] w fun e w' => e = .returned (.bool (engB now nx T O P L K)) ∧ Below w.heap.size w w' := by
 obtain ⟨v, hv⟩ : ∃ v, v = w.alloc (.cells #[.int .i64 now, .slice aT T.length cT, .slice aO O.length cO, .slice aP P.length cP, .slice aL L.length cL, .slice aK K.length cK, .int .i64 nx] 38) := ⟨_, rfl⟩
 have nb : Below w.heap.size w v := by rw [hv]; go_grown
 have L0 : Lay v w.heap.size [.int .i64 now, .slice aT T.length cT, .slice aO O.length cO, .slice aP P.length cP, .slice aL L.length cL, .slice aK K.length cK, .int .i64 nx] := by rw [hv]; exact lay_new [.int .i64 now, .slice aT T.length cT, .slice aO O.length cO, .slice aP P.length cP, .slice aL L.length cL, .slice aK K.length cK, .int .i64 nx] _ rfl
 have HE : Hid (engB now nx T O P L K = false) := eg_false (fun h => by have q := h.lend; rw [h1] at q; cases q)
 go_enter Tryz.func23, Tryz.ntmps23
 go_upto_region 1 with (fail)
 rw [← hv]
 clear hv
 have HS : Hid (∀ x, Below v.heap.size v x → x.cell? ⟨w.heap.size, 0, none⟩ = some (.int .i64 now) ∧ x.cell? ⟨w.heap.size, 1, none⟩ = some (.slice aT T.length cT) ∧ x.cell? ⟨w.heap.size, 2, none⟩ = some (.slice aO O.length cO) ∧ x.cell? ⟨w.heap.size, 3, none⟩ = some (.slice aP P.length cP) ∧ x.cell? ⟨w.heap.size, 4, none⟩ = some (.slice aL L.length cL) ∧ x.cell? ⟨w.heap.size, 5, none⟩ = some (.slice aK K.length cK) ∧ x.cell? ⟨w.heap.size, 6, none⟩ = some (.int .i64 nx)) := fun x hx => ⟨(L0.next hx).cell 0 _ rfl, (L0.next hx).cell 1 _ rfl, (L0.next hx).cell 2 _ rfl, (L0.next hx).cell 3 _ rfl, (L0.next hx).cell 4 _ rfl, (L0.next hx).cell 5 _ rfl, (L0.next hx).cell 6 _ rfl⟩
 refine wp_region_held_drew (S := fun w' => w'.cell? ⟨w.heap.size, 0, none⟩ = some (.int .i64 now) ∧ w'.cell? ⟨w.heap.size, 1, none⟩ = some (.slice aT T.length cT) ∧ w'.cell? ⟨w.heap.size, 2, none⟩ = some (.slice aO O.length cO) ∧ w'.cell? ⟨w.heap.size, 3, none⟩ = some (.slice aP P.length cP) ∧ w'.cell? ⟨w.heap.size, 4, none⟩ = some (.slice aL L.length cL) ∧ w'.cell? ⟨w.heap.size, 5, none⟩ = some (.slice aK K.length cK) ∧ w'.cell? ⟨w.heap.size, 6, none⟩ = some (.int .i64 nx)) (by kernel_rfl) (HS.out _ (Below.refl _ _).drew) (fun hS => ?_)
 refine anyR 0 rfl ?_
 refine anyR 1 rfl ?_
 refine anyC 2 rfl fun Kr hKr => ?_
 go_simp
 (refine (sTime_is h0 _).mono ?_; rintro e w3 ⟨rfl, e3⟩; replace e3 := e3.symm; subst e3)
 refine hKr.out _ _ ‹_› fun _ => ?_
 try simp only [nrm]
 refine anyR 3 rfl ?_
 refine anyR 4 rfl ?_
 refine anyR 5 rfl ?_
 refine anyR 6 rfl ?_
 refine anyC 7 rfl fun Kr hKr => ?_
 go_simp
 (refine (specLendOk_is cT cO cP h1 (hT.here (nb.drew)) (hO.here (nb.drew)) (hP.here (nb.drew))).mono ?_; rintro e w5 ⟨rfl, hb5⟩; have hb5 := undrewE hb5; have hS5 := HS.out _ hb5)
 refine hKr.out _ _ ‹_› fun _ => ?_
 try simp only [nrm]
 refine anyR 8 rfl ?_
 refine anyR 9 rfl ?_
 refine anyR 10 rfl ?_
 refine anyS 11 rfl ?_
 refine anyS 12 rfl ?_
 refine anyS 13 rfl ?_
 refine anyS 14 rfl ?_
 refine anyS 15 rfl ?_
 refine anyS 16 rfl ?_
 refine anyS 17 rfl ?_
 refine anyS 18 rfl ?_
 refine anyS 19 rfl ?_
 refine anyR 20 rfl ?_
 refine anyR 21 rfl ?_
 refine anyS 22 rfl ?_
 refine anyS 23 rfl ?_
 refine anyS 24 rfl ?_
 refine anyS 25 rfl ?_
 refine anyR 26 rfl ?_
 refine anyR 27 rfl ?_
 refine anyS 28 rfl ?_
 refine anyS 29 rfl ?_
 refine anyS 30 rfl ?_
 refine anyS 31 rfl ?_
 refine anyR 32 rfl ?_
 refine anyR 33 rfl ?_
 refine anyS 34 rfl ?_
 refine anyS 35 rfl ?_
 refine anyS 36 rfl ?_
 refine anyS 37 rfl ?_
 refine anyR 38 rfl ?_
 refine anyR 39 rfl ?_
 refine anyS 40 rfl ?_
 refine anyS 41 rfl ?_
 refine anyS 42 rfl ?_
 refine anyS 43 rfl ?_
 refine anyR 44 rfl ?_
 refine wpAnyH_done (by kernel_rfl) ?_ _
 go_wp2
 go_ret
 exact ⟨retC HE.out.symm, below_two nb hb5⟩
set_option maxHeartbeats 8000000 in
theorem specEng_no2 {w : World} (now nx : Int) {aT aO aP aL aK : Option Addr} (cT cO cP cL cK : Nat) {T O P : List Q4} {L : List F8} {K : List Kn} (hT : Quad w.heap.size w aT T) (hO : Quad w.heap.size w aO O) (hP : Quad w.heap.size w aP P) (hL : Fls w.heap.size w aL L) (hK : Kls w.heap.size w aK K) (mT : T.length ≤ 1048576) (mL : L.length ≤ 1048576) (mK : K.length ≤ 1048576) (sK : ∀ c ∈ K, c.xs.length ≤ maxLen) (h0 : timeB now = true) (h1 : lendB T O P = true) (h2 : ¬ atOf O = now) :
   Calls Tryz.prog 23 #[engV now aT T.length cT aO O.length cO aP P.length cP aL L.length cL aK K.length cK nx] w fun e w' => e = .returned (.bool (engB now nx T O P L K)) ∧ Below w.heap.size w w' := by
 obtain ⟨v, hv⟩ : ∃ v, v = w.alloc (.cells #[.int .i64 now, .slice aT T.length cT, .slice aO O.length cO, .slice aP P.length cP, .slice aL L.length cL, .slice aK K.length cK, .int .i64 nx] 38) := ⟨_, rfl⟩
 have nb : Below w.heap.size w v := by rw [hv]; go_grown
 have L0 : Lay v w.heap.size [.int .i64 now, .slice aT T.length cT, .slice aO O.length cO, .slice aP P.length cP, .slice aL L.length cL, .slice aK K.length cK, .int .i64 nx] := by rw [hv]; exact lay_new [.int .i64 now, .slice aT T.length cT, .slice aO O.length cO, .slice aP P.length cP, .slice aL L.length cL, .slice aK K.length cK, .int .i64 nx] _ rfl
 have hlo := (lend_of h1).lo
 have hl0 := (lend_of h1).tree.l0
 have h0O : 0 < O.length := by omega
 have h0O' : (0 : Int) < (O.length : Int) := by omega
 clear hlo hl0
 obtain ⟨A, hA⟩ : ∃ A, O[0].2.2.2 = A := ⟨_, rfl⟩
 have HA : Hid (atOf O = A) := (atOf_at h0O).trans hA
 rw [HA.out] at h2
 obtain ⟨bo, oo, hao, hbo, -, -, -, qA⟩ := hO.at nb 0 h0O
 rw [hA, Nat.zero_mul, Nat.add_zero] at qA
 subst hao
 clear hA
 have h2' : (A != now) = true := by simp [h2]
 have HE : Hid (engB now nx T O P L K = false) := eg_false (fun h => by exact h2 (HA.out.symm.trans h.at'))
 go_enter Tryz.func23, Tryz.ntmps23
 go_upto_region 1 with (fail)
 rw [← hv]
 clear hv
 have HS : Hid (∀ x, Below v.heap.size v x → x.cell? ⟨w.heap.size, 0, none⟩ = some (.int .i64 now) ∧ x.cell? ⟨w.heap.size, 1, none⟩ = some (.slice aT T.length cT) ∧ x.cell? ⟨w.heap.size, 2, none⟩ = some (.slice (some ⟨bo, oo, none⟩) O.length cO) ∧ x.cell? ⟨w.heap.size, 3, none⟩ = some (.slice aP P.length cP) ∧ x.cell? ⟨w.heap.size, 4, none⟩ = some (.slice aL L.length cL) ∧ x.cell? ⟨w.heap.size, 5, none⟩ = some (.slice aK K.length cK) ∧ x.cell? ⟨w.heap.size, 6, none⟩ = some (.int .i64 nx) ∧ x.cell? ⟨bo, oo + 3, none⟩ = some (.int .i64 A)) := fun x hx => ⟨(L0.next hx).cell 0 _ rfl, (L0.next hx).cell 1 _ rfl, (L0.next hx).cell 2 _ rfl, (L0.next hx).cell 3 _ rfl, (L0.next hx).cell 4 _ rfl, (L0.next hx).cell 5 _ rfl, (L0.next hx).cell 6 _ rfl, (hx.cell (by exact Nat.lt_of_lt_of_le hbo nb.size)).trans qA⟩
 refine wp_region_held_drew (S := fun w' => w'.cell? ⟨w.heap.size, 0, none⟩ = some (.int .i64 now) ∧ w'.cell? ⟨w.heap.size, 1, none⟩ = some (.slice aT T.length cT) ∧ w'.cell? ⟨w.heap.size, 2, none⟩ = some (.slice (some ⟨bo, oo, none⟩) O.length cO) ∧ w'.cell? ⟨w.heap.size, 3, none⟩ = some (.slice aP P.length cP) ∧ w'.cell? ⟨w.heap.size, 4, none⟩ = some (.slice aL L.length cL) ∧ w'.cell? ⟨w.heap.size, 5, none⟩ = some (.slice aK K.length cK) ∧ w'.cell? ⟨w.heap.size, 6, none⟩ = some (.int .i64 nx) ∧ w'.cell? ⟨bo, oo + 3, none⟩ = some (.int .i64 A)) (by kernel_rfl) (HS.out _ (Below.refl _ _).drew) (fun hS => ?_)
 refine anyR 0 rfl ?_
 refine anyR 1 rfl ?_
 refine anyC 2 rfl fun Kr hKr => ?_
 go_simp
 (refine (sTime_is h0 _).mono ?_; rintro e w3 ⟨rfl, e3⟩; replace e3 := e3.symm; subst e3)
 refine hKr.out _ _ ‹_› fun _ => ?_
 try simp only [nrm]
 refine anyR 3 rfl ?_
 refine anyR 4 rfl ?_
 refine anyR 5 rfl ?_
 refine anyR 6 rfl ?_
 refine anyC 7 rfl fun Kr hKr => ?_
 go_simp
 (refine (specLendOk_is cT cO cP h1 (hT.here (nb.drew)) (hO.here (nb.drew)) (hP.here (nb.drew))).mono ?_; rintro e w5 ⟨rfl, hb5⟩; have hb5 := undrewE hb5; have hS5 := HS.out _ hb5)
 refine hKr.out _ _ ‹_› fun _ => ?_
 try simp only [nrm]
 refine anyR 8 rfl ?_
 refine anyR 9 rfl ?_
 refine anyR 10 rfl ?_
 refine anyR 11 rfl ?_
 refine anyR 12 rfl ?_
 refine anyR 13 rfl ?_
 refine anyR 14 rfl ?_
 refine anyR 15 rfl ?_
 refine anyR 16 rfl ?_
 refine anyR 17 rfl ?_
 refine anyR 18 rfl ?_
 refine anyR 19 rfl ?_
 refine anyR 20 rfl ?_
 refine anyR 21 rfl ?_
 refine anyS 22 rfl ?_
 refine anyS 23 rfl ?_
 refine anyS 24 rfl ?_
 refine anyS 25 rfl ?_
 refine anyR 26 rfl ?_
 refine anyR 27 rfl ?_
 refine anyS 28 rfl ?_
 refine anyS 29 rfl ?_
 refine anyS 30 rfl ?_
 refine anyS 31 rfl ?_
 refine anyR 32 rfl ?_
 refine anyR 33 rfl ?_
 refine anyS 34 rfl ?_
 refine anyS 35 rfl ?_
 refine anyS 36 rfl ?_
 refine anyS 37 rfl ?_
 refine anyR 38 rfl ?_
 refine anyR 39 rfl ?_
 refine anyS 40 rfl ?_
 refine anyS 41 rfl ?_
 refine anyS 42 rfl ?_
 refine anyS 43 rfl ?_
 refine anyR 44 rfl ?_
 refine wpAnyH_done (by kernel_rfl) ?_ _
 go_wp2
 go_ret
 exact ⟨retC HE.out.symm, below_two nb hb5⟩
set_option maxHeartbeats 8000000 in
theorem specEng_no3 {w : World} (now nx : Int) {aT aO aP aL aK : Option Addr} (cT cO cP cL cK : Nat) {T O P : List Q4} {L : List F8} {K : List Kn} (hT : Quad w.heap.size w aT T) (hO : Quad w.heap.size w aO O) (hP : Quad w.heap.size w aP P) (hL : Fls w.heap.size w aL L) (hK : Kls w.heap.size w aK K) (mT : T.length ≤ 1048576) (mL : L.length ≤ 1048576) (mK : K.length ≤ 1048576) (sK : ∀ c ∈ K, c.xs.length ≤ maxLen) (h0 : timeB now = true) (h1 : lendB T O P = true) (h2 : atOf O = now) (h3 : (L.length : Int) < 1) :
   Calls Tryz.prog 23 #[engV now aT T.length cT aO O.length cO aP P.length cP aL L.length cL aK K.length cK nx] w fun e w' => e = .returned (.bool (engB now nx T O P L K)) ∧ Below w.heap.size w w' := by
 obtain ⟨v, hv⟩ : ∃ v, v = w.alloc (.cells #[.int .i64 now, .slice aT T.length cT, .slice aO O.length cO, .slice aP P.length cP, .slice aL L.length cL, .slice aK K.length cK, .int .i64 nx] 38) := ⟨_, rfl⟩
 have nb : Below w.heap.size w v := by rw [hv]; go_grown
 have L0 : Lay v w.heap.size [.int .i64 now, .slice aT T.length cT, .slice aO O.length cO, .slice aP P.length cP, .slice aL L.length cL, .slice aK K.length cK, .int .i64 nx] := by rw [hv]; exact lay_new [.int .i64 now, .slice aT T.length cT, .slice aO O.length cO, .slice aP P.length cP, .slice aL L.length cL, .slice aK K.length cK, .int .i64 nx] _ rfl
 have hlo := (lend_of h1).lo
 have hl0 := (lend_of h1).tree.l0
 have h0O : 0 < O.length := by omega
 have h0O' : (0 : Int) < (O.length : Int) := by omega
 clear hlo hl0
 obtain ⟨A, hA⟩ : ∃ A, O[0].2.2.2 = A := ⟨_, rfl⟩
 have HA : Hid (atOf O = A) := (atOf_at h0O).trans hA
 rw [HA.out] at h2
 obtain ⟨bo, oo, hao, hbo, -, -, -, qA⟩ := hO.at nb 0 h0O
 rw [hA, Nat.zero_mul, Nat.add_zero] at qA
 subst hao
 clear hA
 subst h2
 have HE : Hid (engB A nx T O P L K = false) := eg_false (fun h => by have q := h.l0; omega)
 go_enter Tryz.func23, Tryz.ntmps23
 go_upto_region 1 with (fail)
 rw [← hv]
 clear hv
 have HS : Hid (∀ x, Below v.heap.size v x → x.cell? ⟨w.heap.size, 0, none⟩ = some (.int .i64 A) ∧ x.cell? ⟨w.heap.size, 1, none⟩ = some (.slice aT T.length cT) ∧ x.cell? ⟨w.heap.size, 2, none⟩ = some (.slice (some ⟨bo, oo, none⟩) O.length cO) ∧ x.cell? ⟨w.heap.size, 3, none⟩ = some (.slice aP P.length cP) ∧ x.cell? ⟨w.heap.size, 4, none⟩ = some (.slice aL L.length cL) ∧ x.cell? ⟨w.heap.size, 5, none⟩ = some (.slice aK K.length cK) ∧ x.cell? ⟨w.heap.size, 6, none⟩ = some (.int .i64 nx) ∧ x.cell? ⟨bo, oo + 3, none⟩ = some (.int .i64 A)) := fun x hx => ⟨(L0.next hx).cell 0 _ rfl, (L0.next hx).cell 1 _ rfl, (L0.next hx).cell 2 _ rfl, (L0.next hx).cell 3 _ rfl, (L0.next hx).cell 4 _ rfl, (L0.next hx).cell 5 _ rfl, (L0.next hx).cell 6 _ rfl, (hx.cell (by exact Nat.lt_of_lt_of_le hbo nb.size)).trans qA⟩
 refine wp_region_held_drew (S := fun w' => w'.cell? ⟨w.heap.size, 0, none⟩ = some (.int .i64 A) ∧ w'.cell? ⟨w.heap.size, 1, none⟩ = some (.slice aT T.length cT) ∧ w'.cell? ⟨w.heap.size, 2, none⟩ = some (.slice (some ⟨bo, oo, none⟩) O.length cO) ∧ w'.cell? ⟨w.heap.size, 3, none⟩ = some (.slice aP P.length cP) ∧ w'.cell? ⟨w.heap.size, 4, none⟩ = some (.slice aL L.length cL) ∧ w'.cell? ⟨w.heap.size, 5, none⟩ = some (.slice aK K.length cK) ∧ w'.cell? ⟨w.heap.size, 6, none⟩ = some (.int .i64 nx) ∧ w'.cell? ⟨bo, oo + 3, none⟩ = some (.int .i64 A)) (by kernel_rfl) (HS.out _ (Below.refl _ _).drew) (fun hS => ?_)
 refine anyR 0 rfl ?_
 refine anyR 1 rfl ?_
 refine anyC 2 rfl fun Kr hKr => ?_
 go_simp
 (refine (sTime_is h0 _).mono ?_; rintro e w3 ⟨rfl, e3⟩; replace e3 := e3.symm; subst e3)
 refine hKr.out _ _ ‹_› fun _ => ?_
 try simp only [nrm]
 refine anyR 3 rfl ?_
 refine anyR 4 rfl ?_
 refine anyR 5 rfl ?_
 refine anyR 6 rfl ?_
 refine anyC 7 rfl fun Kr hKr => ?_
 go_simp
 (refine (specLendOk_is cT cO cP h1 (hT.here (nb.drew)) (hO.here (nb.drew)) (hP.here (nb.drew))).mono ?_; rintro e w5 ⟨rfl, hb5⟩; have hb5 := undrewE hb5; have hS5 := HS.out _ hb5)
 refine hKr.out _ _ ‹_› fun _ => ?_
 try simp only [nrm]
 refine anyR 8 rfl ?_
 refine anyR 9 rfl ?_
 refine anyR 10 rfl ?_
 refine anyR 11 rfl ?_
 refine anyR 12 rfl ?_
 refine anyR 13 rfl ?_
 refine anyR 14 rfl ?_
 refine anyR 15 rfl ?_
 refine anyR 16 rfl ?_
 refine anyR 17 rfl ?_
 refine anyR 18 rfl ?_
 refine anyR 19 rfl ?_
 refine anyR 20 rfl ?_
 refine anyR 21 rfl ?_
 refine anyR 22 rfl ?_
 refine anyR 23 rfl ?_
 refine anyR 24 rfl ?_
 refine anyR 25 rfl ?_
 refine anyR 26 rfl ?_
 refine anyR 27 rfl ?_
 refine anyS 28 rfl ?_
 refine anyS 29 rfl ?_
 refine anyS 30 rfl ?_
 refine anyS 31 rfl ?_
 refine anyR 32 rfl ?_
 refine anyR 33 rfl ?_
 refine anyS 34 rfl ?_
 refine anyS 35 rfl ?_
 refine anyS 36 rfl ?_
 refine anyS 37 rfl ?_
 refine anyR 38 rfl ?_
 refine anyR 39 rfl ?_
 refine anyS 40 rfl ?_
 refine anyS 41 rfl ?_
 refine anyS 42 rfl ?_
 refine anyS 43 rfl ?_
 refine anyR 44 rfl ?_
 refine wpAnyH_done (by kernel_rfl) ?_ _
 go_wp2
 go_ret
 exact ⟨retC HE.out.symm, below_two nb hb5⟩
set_option maxHeartbeats 8000000 in
theorem specEng_no4 {w : World} (now nx : Int) {aT aO aP aL aK : Option Addr} (cT cO cP cL cK : Nat) {T O P : List Q4} {L : List F8} {K : List Kn} (hT : Quad w.heap.size w aT T) (hO : Quad w.heap.size w aO O) (hP : Quad w.heap.size w aP P) (hL : Fls w.heap.size w aL L) (hK : Kls w.heap.size w aK K) (mT : T.length ≤ 1048576) (mL : L.length ≤ 1048576) (mK : K.length ≤ 1048576) (sK : ∀ c ∈ K, c.xs.length ≤ maxLen) (h0 : timeB now = true) (h1 : lendB T O P = true) (h2 : atOf O = now) (h3 : ¬ ((L.length : Int) < 1)) (h4 : 10 < (L.length : Int)) :
   Calls Tryz.prog 23 #[engV now aT T.length cT aO O.length cO aP P.length cP aL L.length cL aK K.length cK nx] w fun e w' => e = .returned (.bool (engB now nx T O P L K)) ∧ Below w.heap.size w w' := by
 obtain ⟨v, hv⟩ : ∃ v, v = w.alloc (.cells #[.int .i64 now, .slice aT T.length cT, .slice aO O.length cO, .slice aP P.length cP, .slice aL L.length cL, .slice aK K.length cK, .int .i64 nx] 38) := ⟨_, rfl⟩
 have nb : Below w.heap.size w v := by rw [hv]; go_grown
 have L0 : Lay v w.heap.size [.int .i64 now, .slice aT T.length cT, .slice aO O.length cO, .slice aP P.length cP, .slice aL L.length cL, .slice aK K.length cK, .int .i64 nx] := by rw [hv]; exact lay_new [.int .i64 now, .slice aT T.length cT, .slice aO O.length cO, .slice aP P.length cP, .slice aL L.length cL, .slice aK K.length cK, .int .i64 nx] _ rfl
 have hlo := (lend_of h1).lo
 have hl0 := (lend_of h1).tree.l0
 have h0O : 0 < O.length := by omega
 have h0O' : (0 : Int) < (O.length : Int) := by omega
 clear hlo hl0
 obtain ⟨A, hA⟩ : ∃ A, O[0].2.2.2 = A := ⟨_, rfl⟩
 have HA : Hid (atOf O = A) := (atOf_at h0O).trans hA
 rw [HA.out] at h2
 obtain ⟨bo, oo, hao, hbo, -, -, -, qA⟩ := hO.at nb 0 h0O
 rw [hA, Nat.zero_mul, Nat.add_zero] at qA
 subst hao
 clear hA
 subst h2
 have HE : Hid (engB A nx T O P L K = false) := eg_false (fun h => by have q := h.l1; omega)
 go_enter Tryz.func23, Tryz.ntmps23
 go_upto_region 1 with (fail)
 rw [← hv]
 clear hv
 have HS : Hid (∀ x, Below v.heap.size v x → x.cell? ⟨w.heap.size, 0, none⟩ = some (.int .i64 A) ∧ x.cell? ⟨w.heap.size, 1, none⟩ = some (.slice aT T.length cT) ∧ x.cell? ⟨w.heap.size, 2, none⟩ = some (.slice (some ⟨bo, oo, none⟩) O.length cO) ∧ x.cell? ⟨w.heap.size, 3, none⟩ = some (.slice aP P.length cP) ∧ x.cell? ⟨w.heap.size, 4, none⟩ = some (.slice aL L.length cL) ∧ x.cell? ⟨w.heap.size, 5, none⟩ = some (.slice aK K.length cK) ∧ x.cell? ⟨w.heap.size, 6, none⟩ = some (.int .i64 nx) ∧ x.cell? ⟨bo, oo + 3, none⟩ = some (.int .i64 A)) := fun x hx => ⟨(L0.next hx).cell 0 _ rfl, (L0.next hx).cell 1 _ rfl, (L0.next hx).cell 2 _ rfl, (L0.next hx).cell 3 _ rfl, (L0.next hx).cell 4 _ rfl, (L0.next hx).cell 5 _ rfl, (L0.next hx).cell 6 _ rfl, (hx.cell (by exact Nat.lt_of_lt_of_le hbo nb.size)).trans qA⟩
 refine wp_region_held_drew (S := fun w' => w'.cell? ⟨w.heap.size, 0, none⟩ = some (.int .i64 A) ∧ w'.cell? ⟨w.heap.size, 1, none⟩ = some (.slice aT T.length cT) ∧ w'.cell? ⟨w.heap.size, 2, none⟩ = some (.slice (some ⟨bo, oo, none⟩) O.length cO) ∧ w'.cell? ⟨w.heap.size, 3, none⟩ = some (.slice aP P.length cP) ∧ w'.cell? ⟨w.heap.size, 4, none⟩ = some (.slice aL L.length cL) ∧ w'.cell? ⟨w.heap.size, 5, none⟩ = some (.slice aK K.length cK) ∧ w'.cell? ⟨w.heap.size, 6, none⟩ = some (.int .i64 nx) ∧ w'.cell? ⟨bo, oo + 3, none⟩ = some (.int .i64 A)) (by kernel_rfl) (HS.out _ (Below.refl _ _).drew) (fun hS => ?_)
 refine anyR 0 rfl ?_
 refine anyR 1 rfl ?_
 refine anyC 2 rfl fun Kr hKr => ?_
 go_simp
 (refine (sTime_is h0 _).mono ?_; rintro e w3 ⟨rfl, e3⟩; replace e3 := e3.symm; subst e3)
 refine hKr.out _ _ ‹_› fun _ => ?_
 try simp only [nrm]
 refine anyR 3 rfl ?_
 refine anyR 4 rfl ?_
 refine anyR 5 rfl ?_
 refine anyR 6 rfl ?_
 refine anyC 7 rfl fun Kr hKr => ?_
 go_simp
 (refine (specLendOk_is cT cO cP h1 (hT.here (nb.drew)) (hO.here (nb.drew)) (hP.here (nb.drew))).mono ?_; rintro e w5 ⟨rfl, hb5⟩; have hb5 := undrewE hb5; have hS5 := HS.out _ hb5)
 refine hKr.out _ _ ‹_› fun _ => ?_
 try simp only [nrm]
 refine anyR 8 rfl ?_
 refine anyR 9 rfl ?_
 refine anyR 10 rfl ?_
 refine anyR 11 rfl ?_
 refine anyR 12 rfl ?_
 refine anyR 13 rfl ?_
 refine anyR 14 rfl ?_
 refine anyR 15 rfl ?_
 refine anyR 16 rfl ?_
 refine anyR 17 rfl ?_
 refine anyR 18 rfl ?_
 refine anyR 19 rfl ?_
 refine anyR 20 rfl ?_
 refine anyR 21 rfl ?_
 refine anyR 22 rfl ?_
 refine anyR 23 rfl ?_
 refine anyR 24 rfl ?_
 refine anyR 25 rfl ?_
 refine anyR 26 rfl ?_
 refine anyR 27 rfl ?_
 refine anyR 28 rfl ?_
 refine anyR 29 rfl ?_
 refine anyR 30 rfl ?_
 refine anyR 31 rfl ?_
 refine anyR 32 rfl ?_
 refine anyR 33 rfl ?_
 refine anyS 34 rfl ?_
 refine anyS 35 rfl ?_
 refine anyS 36 rfl ?_
 refine anyS 37 rfl ?_
 refine anyR 38 rfl ?_
 refine anyR 39 rfl ?_
 refine anyS 40 rfl ?_
 refine anyS 41 rfl ?_
 refine anyS 42 rfl ?_
 refine anyS 43 rfl ?_
 refine anyR 44 rfl ?_
 refine wpAnyH_done (by kernel_rfl) ?_ _
 go_wp2
 go_ret
 exact ⟨retC HE.out.symm, below_two nb hb5⟩
set_option maxHeartbeats 8000000 in
theorem specEng_no5 {w : World} (now nx : Int) {aT aO aP aL aK : Option Addr} (cT cO cP cL cK : Nat) {T O P : List Q4} {L : List F8} {K : List Kn} (hT : Quad w.heap.size w aT T) (hO : Quad w.heap.size w aO O) (hP : Quad w.heap.size w aP P) (hL : Fls w.heap.size w aL L) (hK : Kls w.heap.size w aK K) (mT : T.length ≤ 1048576) (mL : L.length ≤ 1048576) (mK : K.length ≤ 1048576) (sK : ∀ c ∈ K, c.xs.length ≤ maxLen) (h0 : timeB now = true) (h1 : lendB T O P = true) (h2 : atOf O = now) (h3 : ¬ ((L.length : Int) < 1)) (h4 : ¬ (10 < (L.length : Int))) (h5 : 40 < (K.length : Int)) :
   Calls Tryz.prog 23 #[engV now aT T.length cT aO O.length cO aP P.length cP aL L.length cL aK K.length cK nx] w fun e w' => e = .returned (.bool (engB now nx T O P L K)) ∧ Below w.heap.size w w' := by
 obtain ⟨v, hv⟩ : ∃ v, v = w.alloc (.cells #[.int .i64 now, .slice aT T.length cT, .slice aO O.length cO, .slice aP P.length cP, .slice aL L.length cL, .slice aK K.length cK, .int .i64 nx] 38) := ⟨_, rfl⟩
 have nb : Below w.heap.size w v := by rw [hv]; go_grown
 have L0 : Lay v w.heap.size [.int .i64 now, .slice aT T.length cT, .slice aO O.length cO, .slice aP P.length cP, .slice aL L.length cL, .slice aK K.length cK, .int .i64 nx] := by rw [hv]; exact lay_new [.int .i64 now, .slice aT T.length cT, .slice aO O.length cO, .slice aP P.length cP, .slice aL L.length cL, .slice aK K.length cK, .int .i64 nx] _ rfl
 have hlo := (lend_of h1).lo
 have hl0 := (lend_of h1).tree.l0
 have h0O : 0 < O.length := by omega
 have h0O' : (0 : Int) < (O.length : Int) := by omega
 clear hlo hl0
 obtain ⟨A, hA⟩ : ∃ A, O[0].2.2.2 = A := ⟨_, rfl⟩
 have HA : Hid (atOf O = A) := (atOf_at h0O).trans hA
 rw [HA.out] at h2
 obtain ⟨bo, oo, hao, hbo, -, -, -, qA⟩ := hO.at nb 0 h0O
 rw [hA, Nat.zero_mul, Nat.add_zero] at qA
 subst hao
 clear hA
 subst h2
 have HE : Hid (engB A nx T O P L K = false) := eg_false (fun h => by have q := h.k1; omega)
 go_enter Tryz.func23, Tryz.ntmps23
 go_upto_region 1 with (fail)
 rw [← hv]
 clear hv
 have HS : Hid (∀ x, Below v.heap.size v x → x.cell? ⟨w.heap.size, 0, none⟩ = some (.int .i64 A) ∧ x.cell? ⟨w.heap.size, 1, none⟩ = some (.slice aT T.length cT) ∧ x.cell? ⟨w.heap.size, 2, none⟩ = some (.slice (some ⟨bo, oo, none⟩) O.length cO) ∧ x.cell? ⟨w.heap.size, 3, none⟩ = some (.slice aP P.length cP) ∧ x.cell? ⟨w.heap.size, 4, none⟩ = some (.slice aL L.length cL) ∧ x.cell? ⟨w.heap.size, 5, none⟩ = some (.slice aK K.length cK) ∧ x.cell? ⟨w.heap.size, 6, none⟩ = some (.int .i64 nx) ∧ x.cell? ⟨bo, oo + 3, none⟩ = some (.int .i64 A)) := fun x hx => ⟨(L0.next hx).cell 0 _ rfl, (L0.next hx).cell 1 _ rfl, (L0.next hx).cell 2 _ rfl, (L0.next hx).cell 3 _ rfl, (L0.next hx).cell 4 _ rfl, (L0.next hx).cell 5 _ rfl, (L0.next hx).cell 6 _ rfl, (hx.cell (by exact Nat.lt_of_lt_of_le hbo nb.size)).trans qA⟩
 refine wp_region_held_drew (S := fun w' => w'.cell? ⟨w.heap.size, 0, none⟩ = some (.int .i64 A) ∧ w'.cell? ⟨w.heap.size, 1, none⟩ = some (.slice aT T.length cT) ∧ w'.cell? ⟨w.heap.size, 2, none⟩ = some (.slice (some ⟨bo, oo, none⟩) O.length cO) ∧ w'.cell? ⟨w.heap.size, 3, none⟩ = some (.slice aP P.length cP) ∧ w'.cell? ⟨w.heap.size, 4, none⟩ = some (.slice aL L.length cL) ∧ w'.cell? ⟨w.heap.size, 5, none⟩ = some (.slice aK K.length cK) ∧ w'.cell? ⟨w.heap.size, 6, none⟩ = some (.int .i64 nx) ∧ w'.cell? ⟨bo, oo + 3, none⟩ = some (.int .i64 A)) (by kernel_rfl) (HS.out _ (Below.refl _ _).drew) (fun hS => ?_)
 refine anyR 0 rfl ?_
 refine anyR 1 rfl ?_
 refine anyC 2 rfl fun Kr hKr => ?_
 go_simp
 (refine (sTime_is h0 _).mono ?_; rintro e w3 ⟨rfl, e3⟩; replace e3 := e3.symm; subst e3)
 refine hKr.out _ _ ‹_› fun _ => ?_
 try simp only [nrm]
 refine anyR 3 rfl ?_
 refine anyR 4 rfl ?_
 refine anyR 5 rfl ?_
 refine anyR 6 rfl ?_
 refine anyC 7 rfl fun Kr hKr => ?_
 go_simp
 (refine (specLendOk_is cT cO cP h1 (hT.here (nb.drew)) (hO.here (nb.drew)) (hP.here (nb.drew))).mono ?_; rintro e w5 ⟨rfl, hb5⟩; have hb5 := undrewE hb5; have hS5 := HS.out _ hb5)
 refine hKr.out _ _ ‹_› fun _ => ?_
 try simp only [nrm]
 refine anyR 8 rfl ?_
 refine anyR 9 rfl ?_
 refine anyR 10 rfl ?_
 refine anyR 11 rfl ?_
 refine anyR 12 rfl ?_
 refine anyR 13 rfl ?_
 refine anyR 14 rfl ?_
 refine anyR 15 rfl ?_
 refine anyR 16 rfl ?_
 refine anyR 17 rfl ?_
 refine anyR 18 rfl ?_
 refine anyR 19 rfl ?_
 refine anyR 20 rfl ?_
 refine anyR 21 rfl ?_
 refine anyR 22 rfl ?_
 refine anyR 23 rfl ?_
 refine anyR 24 rfl ?_
 refine anyR 25 rfl ?_
 refine anyR 26 rfl ?_
 refine anyR 27 rfl ?_
 refine anyR 28 rfl ?_
 refine anyR 29 rfl ?_
 refine anyR 30 rfl ?_
 refine anyR 31 rfl ?_
 refine anyR 32 rfl ?_
 refine anyR 33 rfl ?_
 refine anyR 34 rfl ?_
 refine anyR 35 rfl ?_
 refine anyR 36 rfl ?_
 refine anyR 37 rfl ?_
 refine anyR 38 rfl ?_
 refine anyR 39 rfl ?_
 refine anyS 40 rfl ?_
 refine anyS 41 rfl ?_
 refine anyS 42 rfl ?_
 refine anyS 43 rfl ?_
 refine anyR 44 rfl ?_
 refine wpAnyH_done (by kernel_rfl) ?_ _
 go_wp2
 go_ret
 exact ⟨retC HE.out.symm, below_two nb hb5⟩
set_option maxHeartbeats 8000000 in
theorem specEng_no6 {w : World} (now nx : Int) {aT aO aP aL aK : Option Addr} (cT cO cP cL cK : Nat) {T O P : List Q4} {L : List F8} {K : List Kn} (hT : Quad w.heap.size w aT T) (hO : Quad w.heap.size w aO O) (hP : Quad w.heap.size w aP P) (hL : Fls w.heap.size w aL L) (hK : Kls w.heap.size w aK K) (mT : T.length ≤ 1048576) (mL : L.length ≤ 1048576) (mK : K.length ≤ 1048576) (sK : ∀ c ∈ K, c.xs.length ≤ maxLen) (h0 : timeB now = true) (h1 : lendB T O P = true) (h2 : atOf O = now) (h3 : ¬ ((L.length : Int) < 1)) (h4 : ¬ (10 < (L.length : Int))) (h5 : ¬ (40 < (K.length : Int))) (h6 : inQ 0 nx 1000001 = false) :
   Calls Tryz.prog 23 #[engV now aT T.length cT aO O.length cO aP P.length cP aL L.length cL aK K.length cK nx] w fun e w' => e = .returned (.bool (engB now nx T O P L K)) ∧ Below w.heap.size w w' := by
 obtain ⟨v, hv⟩ : ∃ v, v = w.alloc (.cells #[.int .i64 now, .slice aT T.length cT, .slice aO O.length cO, .slice aP P.length cP, .slice aL L.length cL, .slice aK K.length cK, .int .i64 nx] 38) := ⟨_, rfl⟩
 have nb : Below w.heap.size w v := by rw [hv]; go_grown
 have L0 : Lay v w.heap.size [.int .i64 now, .slice aT T.length cT, .slice aO O.length cO, .slice aP P.length cP, .slice aL L.length cL, .slice aK K.length cK, .int .i64 nx] := by rw [hv]; exact lay_new [.int .i64 now, .slice aT T.length cT, .slice aO O.length cO, .slice aP P.length cP, .slice aL L.length cL, .slice aK K.length cK, .int .i64 nx] _ rfl
 have hlo := (lend_of h1).lo
 have hl0 := (lend_of h1).tree.l0
 have h0O : 0 < O.length := by omega
 have h0O' : (0 : Int) < (O.length : Int) := by omega
 clear hlo hl0
 obtain ⟨A, hA⟩ : ∃ A, O[0].2.2.2 = A := ⟨_, rfl⟩
 have HA : Hid (atOf O = A) := (atOf_at h0O).trans hA
 rw [HA.out] at h2
 obtain ⟨bo, oo, hao, hbo, -, -, -, qA⟩ := hO.at nb 0 h0O
 rw [hA, Nat.zero_mul, Nat.add_zero] at qA
 subst hao
 clear hA
 subst h2
 have HE : Hid (engB A nx T O P L K = false) := eg_false (fun h => by have q := h.nx'; rw [h6] at q; cases q)
 go_enter Tryz.func23, Tryz.ntmps23
 go_upto_region 1 with (fail)
 rw [← hv]
 clear hv
 have HS : Hid (∀ x, Below v.heap.size v x → x.cell? ⟨w.heap.size, 0, none⟩ = some (.int .i64 A) ∧ x.cell? ⟨w.heap.size, 1, none⟩ = some (.slice aT T.length cT) ∧ x.cell? ⟨w.heap.size, 2, none⟩ = some (.slice (some ⟨bo, oo, none⟩) O.length cO) ∧ x.cell? ⟨w.heap.size, 3, none⟩ = some (.slice aP P.length cP) ∧ x.cell? ⟨w.heap.size, 4, none⟩ = some (.slice aL L.length cL) ∧ x.cell? ⟨w.heap.size, 5, none⟩ = some (.slice aK K.length cK) ∧ x.cell? ⟨w.heap.size, 6, none⟩ = some (.int .i64 nx) ∧ x.cell? ⟨bo, oo + 3, none⟩ = some (.int .i64 A)) := fun x hx => ⟨(L0.next hx).cell 0 _ rfl, (L0.next hx).cell 1 _ rfl, (L0.next hx).cell 2 _ rfl, (L0.next hx).cell 3 _ rfl, (L0.next hx).cell 4 _ rfl, (L0.next hx).cell 5 _ rfl, (L0.next hx).cell 6 _ rfl, (hx.cell (by exact Nat.lt_of_lt_of_le hbo nb.size)).trans qA⟩
 refine wp_region_held_drew (S := fun w' => w'.cell? ⟨w.heap.size, 0, none⟩ = some (.int .i64 A) ∧ w'.cell? ⟨w.heap.size, 1, none⟩ = some (.slice aT T.length cT) ∧ w'.cell? ⟨w.heap.size, 2, none⟩ = some (.slice (some ⟨bo, oo, none⟩) O.length cO) ∧ w'.cell? ⟨w.heap.size, 3, none⟩ = some (.slice aP P.length cP) ∧ w'.cell? ⟨w.heap.size, 4, none⟩ = some (.slice aL L.length cL) ∧ w'.cell? ⟨w.heap.size, 5, none⟩ = some (.slice aK K.length cK) ∧ w'.cell? ⟨w.heap.size, 6, none⟩ = some (.int .i64 nx) ∧ w'.cell? ⟨bo, oo + 3, none⟩ = some (.int .i64 A)) (by kernel_rfl) (HS.out _ (Below.refl _ _).drew) (fun hS => ?_)
 refine anyR 0 rfl ?_
 refine anyR 1 rfl ?_
 refine anyC 2 rfl fun Kr hKr => ?_
 go_simp
 (refine (sTime_is h0 _).mono ?_; rintro e w3 ⟨rfl, e3⟩; replace e3 := e3.symm; subst e3)
 refine hKr.out _ _ ‹_› fun _ => ?_
 try simp only [nrm]
 refine anyR 3 rfl ?_
 refine anyR 4 rfl ?_
 refine anyR 5 rfl ?_
 refine anyR 6 rfl ?_
 refine anyC 7 rfl fun Kr hKr => ?_
 go_simp
 (refine (specLendOk_is cT cO cP h1 (hT.here (nb.drew)) (hO.here (nb.drew)) (hP.here (nb.drew))).mono ?_; rintro e w5 ⟨rfl, hb5⟩; have hb5 := undrewE hb5; have hS5 := HS.out _ hb5)
 refine hKr.out _ _ ‹_› fun _ => ?_
 try simp only [nrm]
 refine anyR 8 rfl ?_
 refine anyR 9 rfl ?_
 refine anyR 10 rfl ?_
 refine anyR 11 rfl ?_
 refine anyR 12 rfl ?_
 refine anyR 13 rfl ?_
 refine anyR 14 rfl ?_
 refine anyR 15 rfl ?_
 refine anyR 16 rfl ?_
 refine anyR 17 rfl ?_
 refine anyR 18 rfl ?_
 refine anyR 19 rfl ?_
 refine anyR 20 rfl ?_
 refine anyR 21 rfl ?_
 refine anyR 22 rfl ?_
 refine anyR 23 rfl ?_
 refine anyR 24 rfl ?_
 refine anyR 25 rfl ?_
 refine anyR 26 rfl ?_
 refine anyR 27 rfl ?_
 refine anyR 28 rfl ?_
 refine anyR 29 rfl ?_
 refine anyR 30 rfl ?_
 refine anyR 31 rfl ?_
 refine anyR 32 rfl ?_
 refine anyR 33 rfl ?_
 refine anyR 34 rfl ?_
 refine anyR 35 rfl ?_
 refine anyR 36 rfl ?_
 refine anyR 37 rfl ?_
 refine anyR 38 rfl ?_
 refine anyR 39 rfl ?_
 refine anyR 40 rfl ?_
 refine anyR 41 rfl ?_
 refine anyC 42 rfl fun Kr hKr => ?_
 go_simp
 (refine (inQ_is h6 _).mono ?_; rintro e w3 ⟨rfl, e3⟩; replace e3 := e3.symm; subst e3)
 refine hKr.out _ _ ‹_› fun _ => ?_
 try simp only [nrm]
 refine anyR 43 rfl ?_
 refine anyR 44 rfl ?_
 refine wpAnyH_done (by kernel_rfl) ?_ _
 go_wp2
 go_ret
 exact ⟨retC HE.out.symm, below_two nb hb5⟩
end Go.Proofs.YtkohlmloobojfaaGreat
