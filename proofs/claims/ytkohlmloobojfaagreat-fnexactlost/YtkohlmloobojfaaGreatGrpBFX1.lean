/- Lemmas on the way, of several texts: FlyBoth. -/
import Derived.Test.YtkohlmloobojfaaGreatGrpBF
import Derived.Test.YtkohlmloobojfaaGreatGrpAD
import Derived.Test.YtkohlmloobojfaaGreatGrpAW
namespace Go.Proofs.YtkohlmloobojfaaGreat
open Go.ChangeShapes Go.WideShapes Go.ChangeAt Go.RowKit
set_option maxRecDepth 100000
set_option linter.unusedVariables false
set_option linter.unusedSimpArgs false

theorem losts14 (now nx : Int) (T O P : List Q4) (L : List F8) (K : List Kn) (id n : Int) (mT : T.length ≤ 1048576) (mL : L.length ≤ 1048576) (sL : ∀ f ∈ L, f.2.2.length ≤ 1048576) (mK : K.length ≤ 1048576) (sK : ∀ c ∈ K, c.xs.length ≤ 1048576) : ∃ (YN YX : Int) (YT YO YP : List Q4) (YL : List F8) (YK : List Kn) (f : Int), Sizes YT YO YP YL YK ∧ (∀ (w : World) (aT aO aP aL aK : Option Addr) (cT cO cP cL cK : Nat), Quad w.heap.size w aT T → Quad w.heap.size w aO O → Quad w.heap.size w aP P → Fls w.heap.size w aL L → Kls w.heap.size w aK K → Calls Tryz.prog 16 #[engV now aT T.length cT aO O.length cO aP P.length cP aL L.length cL aK K.length cK nx, .int .i64 id, .int .i64 n] w (EgPost w YN YX YT YO YP YL YK (.int .i64 f))) ∧ (∀ (w : World) (aT aO aP aL aK : Option Addr) (cT cO cP cL cK : Nat), Quad w.heap.size w aT T → Quad w.heap.size w aO O → Quad w.heap.size w aP P → Fls w.heap.size w aL L → Kls w.heap.size w aK K → Calls Tryz.prog 17 #[engV now aT T.length cT aO O.length cO aP P.length cP aL L.length cL aK K.length cK nx, .int .i64 id, .int .i64 n] w (EgPost w YN YX YT YO YP YL YK (.int .i64 f))) := by
  cases h1 : engB now nx T O P L K
  · exact ⟨0, 0, [], [], [], [], [], 1, (small_nil).sizes, fun w aT aO aP aL aK cT cO cP cL cK hT hO hP hL hK => specLost_bad now nx cT cO cP cL cK id n hT hO hP hL hK mT mL sL mK sK h1, fun w aT aO aP aL aK cT cO cP cL cK hT hO hP hL hK => implLost_bad now nx cT cO cP cL cK id n hT hO hP hL hK mL sL mK sK h1⟩
  · have es := eg_small (eg_yes h1)
    by_cases hf : fK K id = -1
    · exact ⟨now, nx, T, O, P, L, K, 2, (es).sizes, fun w aT aO aP aL aK cT cO cP cL cK hT hO hP hL hK => specLost_id now nx cT cO cP cL cK id n hT hO hP hL hK mT mL sL mK sK h1 hf, fun w aT aO aP aL aK cT cO cP cL cK hT hO hP hL hK => implLost_id now nx cT cO cP cL cK id n hT hO hP hL hK mL sL mK sK h1 hf⟩
    · have hge : fK K id ≠ -1 := hf
      obtain ⟨i, hi, hfi, _⟩ := fK_some hge
      cases hg : inQ 1 n K[i].fl
      · exact ⟨now, nx, T, O, P, L, K, 7, (es).sizes, fun w aT aO aP aL aK cT cO cP cL cK hT hO hP hL hK => specLost_size now nx cT cO cP cL cK id n hT hO hP hL hK mT mL sL mK sK h1 i hi hfi hg, fun w aT aO aP aL aK cT cO cP cL cK hT hO hP hL hK => implLost_size now nx cT cO cP cL cK id n hT hO hP hL hK mL sL mK sK h1 i hi hfi hg⟩
      · obtain ⟨p, hpl, hp⟩ := eg_place (eg_yes h1) hi
        rcases eg_kind (eg_yes h1) hi with hk | hk
        · exact ⟨now, nx, T, O, P, L.set p (flyP L p n true), K.set i (K[i].cc (flyD K[i] n now true)), 0, ((es.setK (by have := con_xs ((eg_yes h1).con i hi); show K[i].xs.length ≤ 1000; omega)).setL (by rw [flyP_at hp]; exact es.lm L[p] (List.getElem_mem hp))).sizes, fun w aT aO aP aL aK cT cO cP cL cK hT hO hP hL hK => specLost_go1 now nx cT cO cP cL cK id n hT hO hP hL hK mT mL sL mK sK h1 i hi hfi hg p hpl hp hk, fun w aT aO aP aL aK cT cO cP cL cK hT hO hP hL hK => implLost_go now nx cT cO cP cL cK id n hT hO hP hL hK mL sL mK sK h1 i hi hfi hg p hpl hp⟩
        · exact ⟨now, nx, T, O, P, L.set p (flyP L p n true), K.set i (K[i].cc (flyD K[i] n now true)), 0, ((es.setK (by have := con_xs ((eg_yes h1).con i hi); show K[i].xs.length ≤ 1000; omega)).setL (by rw [flyP_at hp]; exact es.lm L[p] (List.getElem_mem hp))).sizes, fun w aT aO aP aL aK cT cO cP cL cK hT hO hP hL hK => specLost_go2 now nx cT cO cP cL cK id n hT hO hP hL hK mT mL sL mK sK h1 i hi hfi hg p hpl hp hk, fun w aT aO aP aL aK cT cO cP cL cK hT hO hP hL hK => implLost_go now nx cT cO cP cL cK id n hT hO hP hL hK mL sL mK sK h1 i hi hfi hg p hpl hp⟩
end Go.Proofs.YtkohlmloobojfaaGreat
