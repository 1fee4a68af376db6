import Derived.Test.YthiojkjcmhojoaaGreatGrpBI
import Derived.Test.YthiojkjcmhojoaaGreatGrpBM
namespace Go.Proofs.YthiojkjcmhojoaaGreat
set_option maxHeartbeats 8000000
open Go.ChangeShapes Go.WideShapes Go.ChangeAt Go.RowKit
set_option maxRecDepth 100000
set_option linter.unusedVariables false
set_option linter.unusedSimpArgs false
theorem zrj {w:World} (now nx:Int) {aT aO aP aL aK:Option Addr} (cT cO cP cL cK:Nat) {T O P:List Q4} {L:List F8} {K:List Kn} (id n:Int) (hT:Quad w.heap.size w aT T) (hO:Quad w.heap.size w aO O) (hP:Quad w.heap.size w aP P) (hL:Fls w.heap.size w aL L) (hK:Kls w.heap.size w aK K) (mL:L.length≤1048576) (sL:∀f ∈ L,f.2.2.length≤1048576) (mK:K.length≤1048576) (sK:∀c ∈ K,c.xs.length≤1048576) (h1:zcl now nx T O P L K=false):Calls Tryz.prog 18 #[zci now aT T.length cT aO O.length cO aP P.length cP aL L.length cL aK K.length cK nx,.int .i64 id,.int .i64 n] w (zb0 w 0 0 [] [] [] [] [] (.int .i64 1)):=by
 obtain ⟨v,hv,nb,L0,L1⟩:=zg9 w 31 [.int .i64 now,.slice aT T.length cT,.slice aO O.length cO,.slice aP P.length cP,.slice aL L.length cL,.slice aK K.length cK,.int .i64 nx]
 have hw1:=L1.lt
 go_enter Tryz.func18,Tryz.ntmps18
 go_upto_region 1 with (fail)
 rw [←hv]
 clear hv
 obtain ⟨q0,q1,q2,q3,q4,q5,q6⟩:=Lay.c7 (b:=w.heap.size) L0
 go_upto_region 2 with (first|(go_at_call 57;refine (zls now nx cT cO cP cL cK id (hT.here nb) (hO.here nb) (hP.here nb) (hL.here nb) (hK.here nb) mL sL mK sK h1).mono ?_;rintro e u1 ⟨bT,dT,bO,dO,bP,dP,bL,dL,bK,dK,rfl,eg,hb1⟩;have HEG:Hid (Eng u1 v.heap.size u1.heap.size (.slice bT 0 dT) (.slice bO 0 dO) (.slice bP 0 dP) (.slice bL 0 dL) (.slice bK 0 dK) [] [] [] [] []):=eg))
 obtain ⟨x,hx⟩:∃x,x=u1.alloc (.cells #[.int .i64 0,.slice bT 0 dT,.slice bO 0 dO,.slice bP 0 dP,.slice bL 0 dL,.slice bK 0 dK,.int .i64 0] 31):=⟨_,rfl⟩
 rw [←hx]
 have LX:Lay x u1.heap.size [.int .i64 0,.slice bT 0 dT,.slice bO 0 dO,.slice bP 0 dP,.slice bL 0 dL,.slice bK 0 dK,.int .i64 0]:=by rw [hx];exact zal [.int .i64 0,.slice bT 0 dT,.slice bO 0 dO,.slice bP 0 dP,.slice bL 0 dL,.slice bK 0 dK,.int .i64 0] _ rfl
 have bx:Below u1.heap.size u1 x:=by rw [hx];exact zab _ _
 clear hx q0 q1 q2 q3 q4 q5 q6
 have X1:=(L1.next hb1).next bx
 have z1:=hb1.size
 have zx:=bx.size
 have zb:=nb.size
 have hlx:=LX.lt
 obtain ⟨j0,j1,j2,j3,j4,j5,j6⟩:=Lay.c7 (b:=u1.heap.size) LX
 obtain ⟨d0,d1,d2,d3,d4,d5,d6⟩:=Lay.c7 (b:=w.heap.size+1) X1
 have df:=X1.free
 go_wp2
 obtain ⟨u,hu',ou,U⟩:=st7 (b:=w.heap.size+1) X1 (.int .i64 0) (.slice bT 0 dT) (.slice bO 0 dO) (.slice bP 0 dP) (.slice bL 0 dL) (.slice bK 0 dK) (.int .i64 0)
 rw [hu']
 clear hu'
 have zu:=ou.size
 refine bodyPost_ret (zaj rfl _ _ _ _ rfl U.cell Tryz.underlying31 rfl (by kernel_rfl)) rfl ?_
 have bw:Below w.heap.size w x:=zaa (zaa nb hb1) bx
 have zbw:=bw.size
 exact ⟨bT,dT,bO,dO,bP,dP,bL,dL,bK,dK,rfl,zs6 (HEG.out.next bx) ou (by omega) (by omega) (by omega),bw.trans (ou.below (by omega) bw.size)⟩
theorem zug {w:World} (now nx:Int) {aT aO aP aL aK:Option Addr} (cT cO cP cL cK:Nat) {T O P:List Q4} {L:List F8} {K:List Kn} (id n:Int) (hT:Quad w.heap.size w aT T) (hO:Quad w.heap.size w aO O) (hP:Quad w.heap.size w aP P) (hL:Fls w.heap.size w aL L) (hK:Kls w.heap.size w aK K) (mL:L.length≤1048576) (sL:∀f ∈ L,f.2.2.length≤1048576) (mK:K.length≤1048576) (sK:∀c ∈ K,c.xs.length≤1048576) (h1:zcl now nx T O P L K=true) (hf:fK K id = -1):Calls Tryz.prog 18 #[zci now aT T.length cT aO O.length cO aP P.length cP aL L.length cL aK K.length cK nx,.int .i64 id,.int .i64 n] w (zb0 w now nx T O P L K (.int .i64 2)):=by
 obtain ⟨v,hv,nb,L0,L1⟩:=zg9 w 31 [.int .i64 now,.slice aT T.length cT,.slice aO O.length cO,.slice aP P.length cP,.slice aL L.length cL,.slice aK K.length cK,.int .i64 nx]
 have hw1:=L1.lt
 go_enter Tryz.func18,Tryz.ntmps18
 go_upto_region 1 with (fail)
 rw [←hv]
 clear hv
 obtain ⟨q0,q1,q2,q3,q4,q5,q6⟩:=Lay.c7 (b:=w.heap.size) L0
 go_upto_region 2 with (first|(go_at_call 57;refine (znc now nx cT cO cP cL cK id (hT.here nb) (hO.here nb) (hP.here nb) (hL.here nb) (hK.here nb) mL sL mK sK h1 hf).mono ?_;rintro e u1 ⟨bT,dT,bO,dO,bP,dP,bL,dL,bK,dK,rfl,eg,hb1⟩;have HEG:Hid (Eng u1 v.heap.size u1.heap.size (.slice bT T.length dT) (.slice bO O.length dO) (.slice bP P.length dP) (.slice bL L.length dL) (.slice bK K.length dK) T O P L K):=eg))
 obtain ⟨x,hx⟩:∃x,x=u1.alloc (.cells #[.int .i64 now,.slice bT T.length dT,.slice bO O.length dO,.slice bP P.length dP,.slice bL L.length dL,.slice bK K.length dK,.int .i64 nx] 31):=⟨_,rfl⟩
 rw [←hx]
 have LX:Lay x u1.heap.size [.int .i64 now,.slice bT T.length dT,.slice bO O.length dO,.slice bP P.length dP,.slice bL L.length dL,.slice bK K.length dK,.int .i64 nx]:=by rw [hx];exact zal [.int .i64 now,.slice bT T.length dT,.slice bO O.length dO,.slice bP P.length dP,.slice bL L.length dL,.slice bK K.length dK,.int .i64 nx] _ rfl
 have bx:Below u1.heap.size u1 x:=by rw [hx];exact zab _ _
 clear hx q0 q1 q2 q3 q4 q5 q6
 have X1:=(L1.next hb1).next bx
 have z1:=hb1.size
 have zx:=bx.size
 have zb:=nb.size
 have hlx:=LX.lt
 obtain ⟨j0,j1,j2,j3,j4,j5,j6⟩:=Lay.c7 (b:=u1.heap.size) LX
 obtain ⟨d0,d1,d2,d3,d4,d5,d6⟩:=Lay.c7 (b:=w.heap.size+1) X1
 have df:=X1.free
 go_wp2
 obtain ⟨u,hu',ou,U⟩:=st7 (b:=w.heap.size+1) X1 (.int .i64 now) (.slice bT T.length dT) (.slice bO O.length dO) (.slice bP P.length dP) (.slice bL L.length dL) (.slice bK K.length dK) (.int .i64 nx)
 rw [hu']
 clear hu'
 have zu:=ou.size
 refine bodyPost_ret (zaj rfl _ _ _ _ rfl U.cell Tryz.underlying31 rfl (by kernel_rfl)) rfl ?_
 have bw:Below w.heap.size w x:=zaa (zaa nb hb1) bx
 have zbw:=bw.size
 exact ⟨bT,dT,bO,dO,bP,dP,bL,dL,bK,dK,rfl,zs6 (HEG.out.next bx) ou (by omega) (by omega) (by omega),bw.trans (ou.below (by omega) bw.size)⟩
theorem zpl {w:World} (now nx:Int) {aT aO aP aL aK:Option Addr} (cT cO cP cL cK:Nat) {T O P:List Q4} {L:List F8} {K:List Kn} (id n:Int) (hT:Quad w.heap.size w aT T) (hO:Quad w.heap.size w aO O) (hP:Quad w.heap.size w aP P) (hL:Fls w.heap.size w aL L) (hK:Kls w.heap.size w aK K) (mL:L.length≤1048576) (sL:∀f ∈ L,f.2.2.length≤1048576) (mK:K.length≤1048576) (sK:∀c ∈ K,c.xs.length≤1048576) (h1:zcl now nx T O P L K=true) (i:Nat) (hi:i<K.length) (hf:fK K id=(i:Int)) (hg:zeo n=false):Calls Tryz.prog 18 #[zci now aT T.length cT aO O.length cO aP P.length cP aL L.length cL aK K.length cK nx,.int .i64 id,.int .i64 n] w (zb0 w now nx T O P L K (.int .i64 7)):=by
 have hi':(i:Int)<(K.length:Int):=by omega
 have hi0:(0:Int)≤(i:Int):=by omega
 obtain ⟨v,hv,nb,L0,L1⟩:=zg9 w 31 [.int .i64 now,.slice aT T.length cT,.slice aO O.length cO,.slice aP P.length cP,.slice aL L.length cL,.slice aK K.length cK,.int .i64 nx]
 have hw1:=L1.lt
 go_enter Tryz.func18,Tryz.ntmps18
 go_upto_region 1 with (fail)
 rw [←hv]
 clear hv
 obtain ⟨q0,q1,q2,q3,q4,q5,q6⟩:=Lay.c7 (b:=w.heap.size) L0
 go_upto_region 2 with (first|(go_at_call 57;refine (zf7 now nx cT cO cP cL cK id (hT.here nb) (hO.here nb) (hP.here nb) (hL.here nb) (hK.here nb) mL sL mK sK h1 i hi hf).mono ?_;rintro e u1 ⟨bT,dT,bO,dO,bP,dP,bL,dL,bK,dK,GK,lh,ph,rfl,lv,lb,tv,ck,hz,hb1⟩))
 obtain ⟨gk,hbK⟩:∃gk,bK=some ⟨gk,0,none⟩:=by
  rcases ck.row.2 with ⟨e,e2⟩|⟨gk,capk,cur,e,_⟩
  ·omega
  ·injection e with e1
   exact ⟨gk,e1⟩
 subst hbK
 obtain ⟨x,hx⟩:∃x,x=u1.alloc (.cells #[.int .i64 now,.slice bT T.length dT,.slice bO O.length dO,.slice bP P.length dP,.slice bL L.length dL,.slice (some ⟨gk,0,none⟩) K.length dK,.int .i64 nx] 31):=⟨_,rfl⟩
 rw [←hx]
 have LX:Lay x u1.heap.size [.int .i64 now,.slice bT T.length dT,.slice bO O.length dO,.slice bP P.length dP,.slice bL L.length dL,.slice (some ⟨gk,0,none⟩) K.length dK,.int .i64 nx]:=by rw [hx];exact zal [.int .i64 now,.slice bT T.length dT,.slice bO O.length dO,.slice bP P.length dP,.slice bL L.length dL,.slice (some ⟨gk,0,none⟩) K.length dK,.int .i64 nx] _ rfl
 have bx:Below u1.heap.size u1 x:=by rw [hx];exact zab _ _
 clear hx q0 q1 q2 q3 q4 q5 q6
 have X1:=(L1.next hb1).next bx
 have z1:=hb1.size
 have zx:=bx.size
 have zb:=nb.size
 have hlx:=LX.lt
 have hgl:=ck.len
 have hiG:i<GK.length:=by omega
 have hgi:GK[i].1=K[i]:=by
  have:(GK.map Prod.fst)[i]?=K[i]?:=by rw [ck.fst]
  rw [List.getElem?_map,List.getElem?_eq_getElem hiG,List.getElem?_eq_getElem hi] at this
  exact Option.some.inj this
 have HGK:Hid (GK[i].1=K[i]):=hgi
 obtain ⟨m,hm⟩:∃m,K[i].xs.length=m:=⟨_,rfl⟩
 have HM:Hid (K[i].xs.length=m):=hm
 have HXL:Hid (GK[i].1.xs.length=m):=by show GK[i].1.xs.length=m;rw [hgi];exact hm
 obtain ⟨sv,cv,hsv⟩:=zas (ck.ints i hiG)
 have HGI2:Hid (GK[i].2=.slice sv m cv):=by show GK[i].2=_;rw [hsv,HXL.out]
 have HSEP:Hid (∀q,GK[i].2.ownBlock=some q→ph≤q∧q<u1.heap.size):=fun q hq=>(ck.ints i hiG).lt q hq
 have hgk:=ck.row.lt gk rfl
 have hmi:m≤1048576:=by have:=sK K[i] (List.getElem_mem hi);omega
 have CX:Hid (CpK x ph (.slice (some ⟨gk,0,none⟩) K.length dK) GK K):=ck.next bx
 have hzA:=hz.1
 have hzB:=hz.2.1
 have hzC:=hz.2.2
 have e13:x.cell? ⟨gk,i*14+13,none⟩=some (.slice sv m cv):=(CX.out.row.cellAt _ (by omega)).trans ((zbg GK i hiG 13 (by omega)).trans (by show some GK[i].2=_;rw [HGI2.out]))
 clear hgl hgi hsv hm
 obtain ⟨j0,j1,j2,j3,j4,j5,j6⟩:=Lay.c7 (b:=u1.heap.size) LX
 obtain ⟨d0,d1,d2,d3,d4,d5,d6⟩:=Lay.c7 (b:=w.heap.size+1) X1
 have df:=X1.free
 go_wp2_with (first|(go_at_call 70;refine (zqi hg _).mono ?_;rintro e w3 ⟨rfl,e3⟩;replace e3:=e3.symm;subst e3))
 obtain ⟨u,hu',ou,U⟩:=st7 (b:=w.heap.size+1) X1 (.int .i64 now) (.slice bT T.length dT) (.slice bO O.length dO) (.slice bP P.length dP) (.slice bL L.length dL) (.slice (some ⟨gk,0,none⟩) K.length dK) (.int .i64 nx)
 rw [hu']
 clear hu'
 have zu:=ou.size
 refine bodyPost_ret (zaj rfl _ _ _ _ rfl U.cell Tryz.underlying31 rfl (by kernel_rfl)) rfl ?_
 have bw:Below w.heap.size w x:=zaa (zaa nb hb1) bx
 have zbw:=bw.size
 exact ⟨bT,dT,bO,dO,bP,dP,bL,dL,some ⟨gk,0,none⟩,dK,rfl,zk7 (lv.next bx) lb (tv.next bx) (ck.next bx) ⟨hzA,hzB,by omega⟩ ou (by omega) (by omega),bw.trans (ou.below (by omega) bw.size)⟩
theorem zpm {w:World} (now nx:Int) {aT aO aP aL aK:Option Addr} (cT cO cP cL cK:Nat) {T O P:List Q4} {L:List F8} {K:List Kn} (id n:Int) (hT:Quad w.heap.size w aT T) (hO:Quad w.heap.size w aO O) (hP:Quad w.heap.size w aP P) (hL:Fls w.heap.size w aL L) (hK:Kls w.heap.size w aK K) (mL:L.length≤1048576) (sL:∀f ∈ L,f.2.2.length≤1048576) (mK:K.length≤1048576) (sK:∀c ∈ K,c.xs.length≤1048576) (h1:zcl now nx T O P L K=true) (i:Nat) (hi:i<K.length) (hf:fK K id=(i:Int)) (hg:zeo n=true) (hfull:K[i].xs.length=100):Calls Tryz.prog 18 #[zci now aT T.length cT aO O.length cO aP P.length cP aL L.length cL aK K.length cK nx,.int .i64 id,.int .i64 n] w (zb0 w now nx T O P L K (.int .i64 6)):=by
 have hi':(i:Int)<(K.length:Int):=by omega
 have hi0:(0:Int)≤(i:Int):=by omega
 obtain ⟨v,hv,nb,L0,L1⟩:=zg9 w 31 [.int .i64 now,.slice aT T.length cT,.slice aO O.length cO,.slice aP P.length cP,.slice aL L.length cL,.slice aK K.length cK,.int .i64 nx]
 have hw1:=L1.lt
 go_enter Tryz.func18,Tryz.ntmps18
 go_upto_region 1 with (fail)
 rw [←hv]
 clear hv
 obtain ⟨q0,q1,q2,q3,q4,q5,q6⟩:=Lay.c7 (b:=w.heap.size) L0
 go_upto_region 2 with (first|(go_at_call 57;refine (zf7 now nx cT cO cP cL cK id (hT.here nb) (hO.here nb) (hP.here nb) (hL.here nb) (hK.here nb) mL sL mK sK h1 i hi hf).mono ?_;rintro e u1 ⟨bT,dT,bO,dO,bP,dP,bL,dL,bK,dK,GK,lh,ph,rfl,lv,lb,tv,ck,hz,hb1⟩))
 obtain ⟨gk,hbK⟩:∃gk,bK=some ⟨gk,0,none⟩:=by
  rcases ck.row.2 with ⟨e,e2⟩|⟨gk,capk,cur,e,_⟩
  ·omega
  ·injection e with e1
   exact ⟨gk,e1⟩
 subst hbK
 obtain ⟨x,hx⟩:∃x,x=u1.alloc (.cells #[.int .i64 now,.slice bT T.length dT,.slice bO O.length dO,.slice bP P.length dP,.slice bL L.length dL,.slice (some ⟨gk,0,none⟩) K.length dK,.int .i64 nx] 31):=⟨_,rfl⟩
 rw [←hx]
 have LX:Lay x u1.heap.size [.int .i64 now,.slice bT T.length dT,.slice bO O.length dO,.slice bP P.length dP,.slice bL L.length dL,.slice (some ⟨gk,0,none⟩) K.length dK,.int .i64 nx]:=by rw [hx];exact zal [.int .i64 now,.slice bT T.length dT,.slice bO O.length dO,.slice bP P.length dP,.slice bL L.length dL,.slice (some ⟨gk,0,none⟩) K.length dK,.int .i64 nx] _ rfl
 have bx:Below u1.heap.size u1 x:=by rw [hx];exact zab _ _
 clear hx q0 q1 q2 q3 q4 q5 q6
 have X1:=(L1.next hb1).next bx
 have z1:=hb1.size
 have zx:=bx.size
 have zb:=nb.size
 have hlx:=LX.lt
 have hgl:=ck.len
 have hiG:i<GK.length:=by omega
 have hgi:GK[i].1=K[i]:=by
  have:(GK.map Prod.fst)[i]?=K[i]?:=by rw [ck.fst]
  rw [List.getElem?_map,List.getElem?_eq_getElem hiG,List.getElem?_eq_getElem hi] at this
  exact Option.some.inj this
 have HGK:Hid (GK[i].1=K[i]):=hgi
 obtain ⟨m,hm⟩:∃m,K[i].xs.length=m:=⟨_,rfl⟩
 have HM:Hid (K[i].xs.length=m):=hm
 have HXL:Hid (GK[i].1.xs.length=m):=by show GK[i].1.xs.length=m;rw [hgi];exact hm
 obtain ⟨sv,cv,hsv⟩:=zas (ck.ints i hiG)
 have HGI2:Hid (GK[i].2=.slice sv m cv):=by show GK[i].2=_;rw [hsv,HXL.out]
 have HSEP:Hid (∀q,GK[i].2.ownBlock=some q→ph≤q∧q<u1.heap.size):=fun q hq=>(ck.ints i hiG).lt q hq
 have hgk:=ck.row.lt gk rfl
 have hmi:m≤1048576:=by have:=sK K[i] (List.getElem_mem hi);omega
 have CX:Hid (CpK x ph (.slice (some ⟨gk,0,none⟩) K.length dK) GK K):=ck.next bx
 have hzA:=hz.1
 have hzB:=hz.2.1
 have hzC:=hz.2.2
 have e13:x.cell? ⟨gk,i*14+13,none⟩=some (.slice sv m cv):=(CX.out.row.cellAt _ (by omega)).trans ((zbg GK i hiG 13 (by omega)).trans (by show some GK[i].2=_;rw [HGI2.out]))
 have hm100:m=100:=hm.symm.trans hfull
 clear hgl hgi hsv hm
 subst hm100
 obtain ⟨j0,j1,j2,j3,j4,j5,j6⟩:=Lay.c7 (b:=u1.heap.size) LX
 obtain ⟨d0,d1,d2,d3,d4,d5,d6⟩:=Lay.c7 (b:=w.heap.size+1) X1
 have df:=X1.free
 go_wp2_with (first|(go_at_call 70;refine (zqi hg _).mono ?_;rintro e w3 ⟨rfl,e3⟩;replace e3:=e3.symm;subst e3))
 obtain ⟨u,hu',ou,U⟩:=st7 (b:=w.heap.size+1) X1 (.int .i64 now) (.slice bT T.length dT) (.slice bO O.length dO) (.slice bP P.length dP) (.slice bL L.length dL) (.slice (some ⟨gk,0,none⟩) K.length dK) (.int .i64 nx)
 rw [hu']
 clear hu'
 have zu:=ou.size
 refine bodyPost_ret (zaj rfl _ _ _ _ rfl U.cell Tryz.underlying31 rfl (by kernel_rfl)) rfl ?_
 have bw:Below w.heap.size w x:=zaa (zaa nb hb1) bx
 have zbw:=bw.size
 exact ⟨bT,dT,bO,dO,bP,dP,bL,dL,some ⟨gk,0,none⟩,dK,rfl,zk7 (lv.next bx) lb (tv.next bx) (ck.next bx) ⟨hzA,hzB,by omega⟩ ou (by omega) (by omega),bw.trans (ou.below (by omega) bw.size)⟩
theorem zuh {w:World} (now nx:Int) {aT aO aP aL aK:Option Addr} (cT cO cP cL cK:Nat) {T O P:List Q4} {L:List F8} {K:List Kn} (id n:Int) (hT:Quad w.heap.size w aT T) (hO:Quad w.heap.size w aO O) (hP:Quad w.heap.size w aP P) (hL:Fls w.heap.size w aL L) (hK:Kls w.heap.size w aK K) (mL:L.length≤1048576) (sL:∀f ∈ L,f.2.2.length≤1048576) (mK:K.length≤1048576) (sK:∀c ∈ K,c.xs.length≤1048576) (h1:zcl now nx T O P L K=true) (i:Nat) (hi:i<K.length) (hf:fK K id=(i:Int)) (hg:zeo n=true) (hfull:¬K[i].xs.length=100):Calls Tryz.prog 18 #[zci now aT T.length cT aO O.length cO aP P.length cP aL L.length cL aK K.length cK nx,.int .i64 id,.int .i64 n] w (zb0 w now nx T O P L (K.set i (K[i].more n)) (.int .i64 0)):=by
 have hi':(i:Int)<(K.length:Int):=by omega
 have hi0:(0:Int)≤(i:Int):=by omega
 obtain ⟨i0,hi0',hz0,hz1,hz2⟩:=info_parts zc7
 obtain ⟨v,hv,nb,L0,L1⟩:=zg9 w 31 [.int .i64 now,.slice aT T.length cT,.slice aO O.length cO,.slice aP P.length cP,.slice aL L.length cL,.slice aK K.length cK,.int .i64 nx]
 have hw1:=L1.lt
 go_enter Tryz.func18,Tryz.ntmps18
 go_upto_region 1 with (fail)
 rw [←hv]
 clear hv
 obtain ⟨q0,q1,q2,q3,q4,q5,q6⟩:=Lay.c7 (b:=w.heap.size) L0
 go_upto_region 2 with (first|(go_at_call 57;refine (zf7 now nx cT cO cP cL cK id (hT.here nb) (hO.here nb) (hP.here nb) (hL.here nb) (hK.here nb) mL sL mK sK h1 i hi hf).mono ?_;rintro e u1 ⟨bT,dT,bO,dO,bP,dP,bL,dL,bK,dK,GK,lh,ph,rfl,lv,lb,tv,ck,hz,hb1⟩))
 obtain ⟨gk,hbK⟩:∃gk,bK=some ⟨gk,0,none⟩:=by
  rcases ck.row.2 with ⟨e,e2⟩|⟨gk,capk,cur,e,_⟩
  ·omega
  ·injection e with e1
   exact ⟨gk,e1⟩
 subst hbK
 obtain ⟨x,hx⟩:∃x,x=u1.alloc (.cells #[.int .i64 now,.slice bT T.length dT,.slice bO O.length dO,.slice bP P.length dP,.slice bL L.length dL,.slice (some ⟨gk,0,none⟩) K.length dK,.int .i64 nx] 31):=⟨_,rfl⟩
 rw [←hx]
 have LX:Lay x u1.heap.size [.int .i64 now,.slice bT T.length dT,.slice bO O.length dO,.slice bP P.length dP,.slice bL L.length dL,.slice (some ⟨gk,0,none⟩) K.length dK,.int .i64 nx]:=by rw [hx];exact zal [.int .i64 now,.slice bT T.length dT,.slice bO O.length dO,.slice bP P.length dP,.slice bL L.length dL,.slice (some ⟨gk,0,none⟩) K.length dK,.int .i64 nx] _ rfl
 have bx:Below u1.heap.size u1 x:=by rw [hx];exact zab _ _
 clear hx q0 q1 q2 q3 q4 q5 q6
 have X1:=(L1.next hb1).next bx
 have z1:=hb1.size
 have zx:=bx.size
 have zb:=nb.size
 have hlx:=LX.lt
 have hgl:=ck.len
 have hiG:i<GK.length:=by omega
 have hgi:GK[i].1=K[i]:=by
  have:(GK.map Prod.fst)[i]?=K[i]?:=by rw [ck.fst]
  rw [List.getElem?_map,List.getElem?_eq_getElem hiG,List.getElem?_eq_getElem hi] at this
  exact Option.some.inj this
 have HGK:Hid (GK[i].1=K[i]):=hgi
 obtain ⟨m,hm⟩:∃m,K[i].xs.length=m:=⟨_,rfl⟩
 have HM:Hid (K[i].xs.length=m):=hm
 have HXL:Hid (GK[i].1.xs.length=m):=by show GK[i].1.xs.length=m;rw [hgi];exact hm
 obtain ⟨sv,cv,hsv⟩:=zas (ck.ints i hiG)
 have HGI2:Hid (GK[i].2=.slice sv m cv):=by show GK[i].2=_;rw [hsv,HXL.out]
 have HSEP:Hid (∀q,GK[i].2.ownBlock=some q→ph≤q∧q<u1.heap.size):=fun q hq=>(ck.ints i hiG).lt q hq
 have hgk:=ck.row.lt gk rfl
 have hmi:m≤1048576:=by have:=sK K[i] (List.getElem_mem hi);omega
 have CX:Hid (CpK x ph (.slice (some ⟨gk,0,none⟩) K.length dK) GK K):=ck.next bx
 have hzA:=hz.1
 have hzB:=hz.2.1
 have hzC:=hz.2.2
 have e13:x.cell? ⟨gk,i*14+13,none⟩=some (.slice sv m cv):=(CX.out.row.cellAt _ (by omega)).trans ((zbg GK i hiG 13 (by omega)).trans (by show some GK[i].2=_;rw [HGI2.out]))
 have hm100:((m:Int) == 100)=false:=by rw [beq_eq_false_iff_ne];omega
 have hm101:¬(m:Int)=100:=by omega
 clear hgl hgi hsv hm hfull
 obtain ⟨j0,j1,j2,j3,j4,j5,j6⟩:=Lay.c7 (b:=u1.heap.size) LX
 obtain ⟨d0,d1,d2,d3,d4,d5,d6⟩:=Lay.c7 (b:=w.heap.size+1) X1
 have df:=X1.free
 have bA:Below x.heap.size x (x.alloc (.cells #[.int .i64 n] 2)):=zab _ _
 have CA:=CX.out.next bA
 have RI:=CA.ints i hiG
 rw [HGI2.out,HXL.out] at RI
 have zA:=bA.size
 go_upto_region 10 with (first|(go_at_call 70;refine (zqi hg _).mono ?_;rintro e w3 ⟨rfl,e3⟩;replace e3:=e3.symm;subst e3)|(at_builtin;refine zdq _ rfl _ _ 45 rfl ph 2 i0 _ 1 8 Tryz.underlying45 hi0' hz0 hz1 hz2 rfl (by decide) _ _ _ rfl RI ⟨x.heap.size,0,none⟩ 1 1 [.int .i64 n] rfl rfl ?c1 ?c2 ?c3 ?c4 ?c5 ?c6 ?c7;rotate_left 6;intro v' w' hown' hgr hwh;obtain ⟨a',c',rfl⟩:=zas hown';have CG:=CA.grow hiG (n:=n) (v:=.slice a' (m+1) c') (by rw [HXL.out];exact hown') (by rw [HGI2.out];exact hgr) (by rw [HGI2.out];exact hwh);have hgr2:(x.alloc (.cells #[.int .i64 n] 2)).grownBy w' GK[i].2.ownBlock:=(by rw [HGI2.out];exact hgr);have ho:OnlyO GK[i].2.ownBlock (x.alloc (.cells #[.int .i64 n] 2)) w':=⟨hgr2.os,hgr2.tape,hgr2.output,hgr2.size,fun k hk hn=>hgr2.block k hk (fun e=>hn e.symm)⟩;have row1:=CA.row.kept hgr2 (zbx CA.row (CA.ints i hiG) (by decide));have Lq:=(LX.next bA).onlyO ho (fun e=>by have:=HSEP.out _ e;omega);have Xq:=(X1.next bA).onlyO ho (fun e=>by have:=HSEP.out _ e;omega);have oi1:OnlyI ph u1.heap.size u1 w':=(OnlyI.of_below bx).trans ((OnlyI.of_below bA).trans (OnlyI.ofO ho (fun q hq=>HSEP.out q hq)));have c13q:w'.cell? ⟨gk,i*14+13,none⟩=some (.slice sv m cv):=(row1.cellAt _ (by omega)).trans ((zbg GK i hiG 13 (by omega)).trans (by show some GK[i].2=_;rw [HGI2.out]));have c13f:∀o,w'.frozen? ⟨gk,o,none⟩=false:=(fun o=>row1.frozenAt o);clear j0 j1 j2 j3 j4 j5 j6 d0 d1 d2 d3 d4 d5 d6 df e13))
 case c1=>exact zdw (by go_simp)
 case c2=>exact zc4 [n]
 case c3=>unfold maxLen;omega
 case c4=>omega
 case c5=>simp;omega
 case c6=>decide
 obtain ⟨z,hzz⟩:∃y,y=w'.setCell ⟨gk,i*14+13,none⟩ (.slice a' (m+1) c'):=⟨_,rfl⟩
 rw [←hzz] at CG ⊢
 have oz:Only gk w' z:=by rw [hzz];exact (Only.refl _ w').setCell (p:=⟨gk,i*14+13,none⟩) rfl _
 clear hzz c13q c13f
 have LZ:=Lq.only oz (by omega)
 have ZR:=Xq.only oz (by omega)
 obtain ⟨s0,s1,s2,s3,s4,s5,s6⟩:=Lay.c7 (b:=u1.heap.size) LZ
 obtain ⟨r0,r1,r2,r3,r4,r5,r6⟩:=Lay.c7 (b:=w.heap.size+1) ZR
 have fz:=ZR.free
 go_wp2
 obtain ⟨u,hu',ou,U⟩:=st7 (b:=w.heap.size+1) ZR (.int .i64 now) (.slice bT T.length dT) (.slice bO O.length dO) (.slice bP P.length dP) (.slice bL L.length dL) (.slice (some ⟨gk,0,none⟩) K.length dK) (.int .i64 nx)
 rw [hu']
 clear hu'
 have zoz:=oz.size
 have oiz:OnlyI ph u1.heap.size u1 z:=oi1.trans ⟨oz.os,oz.tape,oz.output,oz.size,fun k hk hn=>oz.block k hk (by omega)⟩
 have ziz:=oiz.size
 have lz:=lv.onlyP (p:=fun k=>ph≤k∧k<u1.heap.size) ⟨oiz.os,oiz.tape,oiz.output,oiz.size,fun k hk hn=>oiz.block k hk (by omega)⟩ (fun b e e'=>by have:=lb b (.inl e);omega) (fun b e e'=>by have:=lb b (.inr (.inl e));omega) (fun b e e'=>by have:=lb b (.inr (.inr e));omega)
 have tz:=tv.onlyI oiz (.inl (Nat.le_refl _))
 rw [HGK.out] at CG
 have CG':CpK z ph (.slice (some ⟨gk,0,none⟩) (K.set i (K[i].more n)).length dK) (GK.set i (K[i].more n,.slice a' (m+1) c')) (K.set i (K[i].more n)):=by rw [List.length_set];exact CG
 have bwz:Below w.heap.size w z:=(zaa nb hb1).trans (oiz.below (by omega) (by omega))
 have zu:=ou.size
 refine bodyPost_ret (zaj rfl _ _ _ _ rfl U.cell Tryz.underlying31 rfl (by kernel_rfl)) rfl ?_
 refine ⟨bT,dT,bO,dO,bP,dP,bL,dL,some ⟨gk,0,none⟩,dK,by rw [List.length_set];rfl,zk7 lz lb tz CG' ⟨hzA,hzB,by omega⟩ ou (by omega) (by omega),bwz.trans (ou.below (by omega) bwz.size)⟩
end Go.Proofs.YthiojkjcmhojoaaGreat
