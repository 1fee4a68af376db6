/- What ContainsFunc answers at EngineOk's closure. -/
import Derived.Test.YtibfclfidaofkasImplMay
import Derived.Test.YtibfclfidaofkasImplConTo
namespace Go.Proofs.Ytibfclfidaofkas
open Go.ChangeShapes Go.WideShapes Go.ChangeAt Go.RowKit
set_option maxRecDepth 100000
set_option linter.unusedVariables false
set_option linter.unusedSimpArgs false

theorem notMay_any {w : World} (now nx : Int) {eb : Nat} {sa : Option Addr} {sc : Nat} {aT aO aP aL aK : Option Addr} {cT nO cO nP cP nL cL nK cK : Nat} {T : List Q4} (c : Kn) (hE : Lay w eb [.int .i64 now, .slice aT T.length cT, .slice aO nO cO, .slice aP nP cP, .slice aL nL cL, .slice aK nK cK, .int .i64 nx]) (hT : Quad w.heap.size w aT T) (hl : T.length ≤ 30) (hL : nL ≤ 1048576) (hs : ISmp w.heap.size w sa c.xs) (hm : c.xs.length ≤ maxLen) :
    Calls Try.prog 34 #[.agg #[.int .i64 c.id, .int .i64 c.lf, .int .i64 c.pl, .int .i64 c.k, .int .i64 c.wn, .int .i64 c.th, .int .i64 c.fl, .int .i64 c.ac, .int .i64 c.la, .int .i64 c.og, .int .i64 c.st, .int .i64 c.fr, .bool c.sl, .slice sa c.xs.length sc], .pointer (some ⟨eb, 0, none⟩)] w fun e w' => e = .returned (.bool (!mayB T nL c)) ∧ Below w.heap.size w w' := by
  obtain ⟨v, hv⟩ : ∃ v, v = w.alloc (.cells #[.int .i64 c.id, .int .i64 c.lf, .int .i64 c.pl, .int .i64 c.k, .int .i64 c.wn, .int .i64 c.th, .int .i64 c.fl, .int .i64 c.ac, .int .i64 c.la, .int .i64 c.og, .int .i64 c.st, .int .i64 c.fr, .bool c.sl, .slice sa c.xs.length sc] 64) := ⟨_, rfl⟩
  have nb : Below w.heap.size w v := by rw [hv]; exact new_below _ _
  have L1 : Lay v w.heap.size [.int .i64 c.id, .int .i64 c.lf, .int .i64 c.pl, .int .i64 c.k, .int .i64 c.wn, .int .i64 c.th, .int .i64 c.fl, .int .i64 c.ac, .int .i64 c.la, .int .i64 c.og, .int .i64 c.st, .int .i64 c.fr, .bool c.sl, .slice sa c.xs.length sc] := by rw [hv]; exact lay_new [.int .i64 c.id, .int .i64 c.lf, .int .i64 c.pl, .int .i64 c.k, .int .i64 c.wn, .int .i64 c.th, .int .i64 c.fl, .int .i64 c.ac, .int .i64 c.la, .int .i64 c.og, .int .i64 c.st, .int .i64 c.fr, .bool c.sl, .slice sa c.xs.length sc] _ rfl
  have L0 := hE.next nb
  have ve0 : v.cell? ⟨eb, 0, none⟩ = some (.int .i64 now) := L0.cell 0 _ rfl
  have ve1 : v.cell? ⟨eb, 1, none⟩ = some (.slice aT T.length cT) := L0.cell 1 _ rfl
  have ve2 : v.cell? ⟨eb, 2, none⟩ = some (.slice aO nO cO) := L0.cell 2 _ rfl
  have ve3 : v.cell? ⟨eb, 3, none⟩ = some (.slice aP nP cP) := L0.cell 3 _ rfl
  have ve4 : v.cell? ⟨eb, 4, none⟩ = some (.slice aL nL cL) := L0.cell 4 _ rfl
  have ve5 : v.cell? ⟨eb, 5, none⟩ = some (.slice aK nK cK) := L0.cell 5 _ rfl
  have ve6 : v.cell? ⟨eb, 6, none⟩ = some (.int .i64 nx) := L0.cell 6 _ rfl
  have vc0 : v.cell? ⟨w.heap.size, 0, none⟩ = some (.int .i64 c.id) := L1.cell 0 _ rfl
  have vc1 : v.cell? ⟨w.heap.size, 1, none⟩ = some (.int .i64 c.lf) := L1.cell 1 _ rfl
  have vc2 : v.cell? ⟨w.heap.size, 2, none⟩ = some (.int .i64 c.pl) := L1.cell 2 _ rfl
  have vc3 : v.cell? ⟨w.heap.size, 3, none⟩ = some (.int .i64 c.k) := L1.cell 3 _ rfl
  have vc4 : v.cell? ⟨w.heap.size, 4, none⟩ = some (.int .i64 c.wn) := L1.cell 4 _ rfl
  have vc5 : v.cell? ⟨w.heap.size, 5, none⟩ = some (.int .i64 c.th) := L1.cell 5 _ rfl
  have vc6 : v.cell? ⟨w.heap.size, 6, none⟩ = some (.int .i64 c.fl) := L1.cell 6 _ rfl
  have vc7 : v.cell? ⟨w.heap.size, 7, none⟩ = some (.int .i64 c.ac) := L1.cell 7 _ rfl
  have vc8 : v.cell? ⟨w.heap.size, 8, none⟩ = some (.int .i64 c.la) := L1.cell 8 _ rfl
  have vc9 : v.cell? ⟨w.heap.size, 9, none⟩ = some (.int .i64 c.og) := L1.cell 9 _ rfl
  have vc10 : v.cell? ⟨w.heap.size, 10, none⟩ = some (.int .i64 c.st) := L1.cell 10 _ rfl
  have vc11 : v.cell? ⟨w.heap.size, 11, none⟩ = some (.int .i64 c.fr) := L1.cell 11 _ rfl
  have vc12 : v.cell? ⟨w.heap.size, 12, none⟩ = some (.bool c.sl) := L1.cell 12 _ rfl
  have vc13 : v.cell? ⟨w.heap.size, 13, none⟩ = some (.slice sa c.xs.length sc) := L1.cell 13 _ rfl
  go_enter Try.func34, Try.ntmps34
  go_upto_region 1 with (fail)
  rw [← hv]
  clear hv
  go_wp2_with (first | (go_at_call 35; refine (mayE_any now nx c (hT.here nb) hl hL (hs.here nb) hm).mono ?_; rintro e w3 ⟨rfl, hb3⟩))
  go_ret
  exact ⟨rfl, below_two nb hb3⟩
def IdxMPost (T : List Q4) (nL : Nat) (K : List Kn) (w : World) (e : Ending) (w' : World) : Prop := ∃ z : Int, e = .returned (.int .i64 z) ∧ decide (0 ≤ z) = !K.all (mayB T nL) ∧ Below w.heap.size w w'
set_option maxHeartbeats 4000000 in
theorem idxM_any {w : World} (now nx : Int) {eb : Nat} {a : Option Addr} (cap : Nat) {aT aO aP aL aK : Option Addr} {cT nO cO nP cP nL cL nK cK : Nat} {T : List Q4} {K : List Kn} (hE : Lay w eb [.int .i64 now, .slice aT T.length cT, .slice aO nO cO, .slice aP nP cP, .slice aL nL cL, .slice aK nK cK, .int .i64 nx]) (hT : Quad w.heap.size w aT T) (hl : T.length ≤ 30) (hL : nL ≤ 1048576) (h : Kls w.heap.size w a K) (hk : K.length ≤ 40) (sK : ∀ c ∈ K, c.xs.length ≤ maxLen) :
    Calls Try.prog 68 #[.slice a K.length cap, .func (.func 34) #[] #[.pointer (some ⟨eb, 0, none⟩)]] w (IdxMPost T nL K w) := by
  have eg : ∀ args w, (callFunc 34 args).run Try.prog w = .ok (.enter 34 args) w := enters_of Try.func34 (by kernel_rfl) rfl
  have hl' : (K.length : Int) ≤ 40 := by omega
  go_enter Try.func68, Try.ntmps68
  go_wp2
  go_loopw [8] (fun i wr => ∃ k : Nat, i = .int .i64 k ∧ k ≤ K.length ∧ Hid (∀ m (h : m < K.length), m < k → mayB T nL K[m] = true) ∧ Below w.heap.size w wr) (fun i _ => K.length - (intOf i).toNat)
  case atStart => exact ⟨0, rfl, by omega, (fun m h k => by omega), Below.refl _ _⟩
  case round =>
    obtain ⟨k, rfl, hk, HA, hbw⟩ := hrel
    by_cases hlt : k < K.length
    · have hlt' : (k : Int) < (K.length : Int) := by omega
      obtain ⟨b, off, sa, sc, hak, hbl, d0, d13, sm⟩ := h.at hbw k hlt
      subst hak
      obtain ⟨c, hc⟩ : ∃ c, K[k] = c := ⟨_, rfl⟩
      have HX : Hid (K[k] = c) := hc
      have hxs : c.xs.length ≤ maxLen := by rw [← hc]; exact sK _ (List.getElem_mem hlt)
      rw [hc] at d0 d13 sm
      clear hc
      have e0 : wr.cell? ⟨b, off + k * 14, none⟩ = some (.int .i64 c.id) := d0 0 _ rfl
      have e1 : wr.cell? ⟨b, off + k * 14 + 1, none⟩ = some (.int .i64 c.lf) := d0 1 _ rfl
      have e2 : wr.cell? ⟨b, off + k * 14 + 2, none⟩ = some (.int .i64 c.pl) := d0 2 _ rfl
      have e3 : wr.cell? ⟨b, off + k * 14 + 3, none⟩ = some (.int .i64 c.k) := d0 3 _ rfl
      have e4 : wr.cell? ⟨b, off + k * 14 + 4, none⟩ = some (.int .i64 c.wn) := d0 4 _ rfl
      have e5 : wr.cell? ⟨b, off + k * 14 + 5, none⟩ = some (.int .i64 c.th) := d0 5 _ rfl
      have e6 : wr.cell? ⟨b, off + k * 14 + 6, none⟩ = some (.int .i64 c.fl) := d0 6 _ rfl
      have e7 : wr.cell? ⟨b, off + k * 14 + 7, none⟩ = some (.int .i64 c.ac) := d0 7 _ rfl
      have e8 : wr.cell? ⟨b, off + k * 14 + 8, none⟩ = some (.int .i64 c.la) := d0 8 _ rfl
      have e9 : wr.cell? ⟨b, off + k * 14 + 9, none⟩ = some (.int .i64 c.og) := d0 9 _ rfl
      have e10 : wr.cell? ⟨b, off + k * 14 + 10, none⟩ = some (.int .i64 c.st) := d0 10 _ rfl
      have e11 : wr.cell? ⟨b, off + k * 14 + 11, none⟩ = some (.int .i64 c.fr) := d0 11 _ rfl
      have e12 : wr.cell? ⟨b, off + k * 14 + 12, none⟩ = some (.bool c.sl) := d0 12 _ rfl
      have e13 : wr.cell? ⟨b, off + k * 14 + 13, none⟩ = some (.slice sa c.xs.length sc) := d13
      have hd := notMay_any (w := wr) (sa := sa) (sc := sc) now nx c (hE.next hbw) (hT.here hbw) hl hL (sm.up hbw.size) hxs
      cases hp : mayB T nL c
      · rw [hp] at hd
        have HB : Hid (K.all (mayB T nL) = false) := by
          show K.all (mayB T nL) = false
          rw [List.all_eq_false]
          exact ⟨K[k], List.getElem_mem hlt, by rw [HX.out, hp]; simp⟩
        go_wp2_with (first | (go_at_call 34; refine hd.mono ?_; rintro e w3 ⟨rfl, hb3⟩))
        go_ret
        exact ⟨k, rfl, by rw [HB.out]; exact decide_eq_true (by omega), below_step hbw hb3⟩
      · rw [hp] at hd
        go_wp2_with (first | (go_at_call 34; refine hd.mono ?_; rintro e w3 ⟨rfl, hb3⟩))
        go_roundw
        case rel =>
          refine ⟨k + 1, by go_num, by omega, fun m hm hk => ?_, below_step hbw hb3⟩
          by_cases e : m = k
          · subst e
            rw [HX.out]
            exact hp
          · exact HA.out m hm (by omega)
        case measure => first | (simp [intOf]; done) | (simp [intOf]; omega)
    · have e : k = K.length := by omega
      subst e
      have HB : Hid (K.all (mayB T nL) = true) := by
        show K.all (mayB T nL) = true
        rw [List.all_eq_true]
        intro x hx
        obtain ⟨i, hi, rfl⟩ := List.mem_iff_getElem.1 hx
        exact HA.out i hi hi
      go_wp2
      go_ret
      exact ⟨-1, rfl, by rw [HB.out]; rfl, hbw⟩
theorem hasM_is {w : World} {now nx : Int} {eb : Nat} {a : Option Addr} (cap : Nat) {aT aO aP aL aK : Option Addr} {cT nO cO nP cP nL cL nK cK : Nat} {T : List Q4} {K : List Kn} {f : Bool} (hf : K.all (mayB T nL) = f) (hE : Lay w eb [.int .i64 now, .slice aT T.length cT, .slice aO nO cO, .slice aP nP cP, .slice aL nL cL, .slice aK nK cK, .int .i64 nx]) (hT : Quad w.heap.size w aT T) (hl : T.length ≤ 30) (hL : nL ≤ 1048576) (h : Kls w.heap.size w a K) (hk : K.length ≤ 40) (sK : ∀ c ∈ K, c.xs.length ≤ maxLen) :
    Calls Try.prog 33 #[.slice a K.length cap, .func (.func 34) #[] #[.pointer (some ⟨eb, 0, none⟩)]] w fun e w' => e = .returned (.bool (!f)) ∧ Below w.heap.size w w' := by
  subst hf
  go_enter Try.func33, Try.ntmps33
  go_wp2_with (first | (go_at_call 68; refine (idxM_any now nx cap hE hT hl hL h hk sK).mono ?_; rintro e w2 ⟨z, rfl, hzz, hb2⟩; have HZ : Hid (decide (0 ≤ z) = !K.all (mayB T nL)) := hzz; clear hzz))
  go_ret
  exact ⟨retC HZ.out, hb2⟩
end Go.Proofs.Ytibfclfidaofkas
