import Derived.Test.YthiojkjcmhojoaaGreatGrpBH
namespace Go.Proofs.YthiojkjcmhojoaaGreat
set_option maxHeartbeats 8000000
open Go.ChangeShapes Go.WideShapes Go.ChangeAt Go.RowKit
set_option maxRecDepth 100000
set_option linter.unusedVariables false
set_option linter.unusedSimpArgs false
theorem specCls_bad {w:World} (now nx:Int) {aT aO aP aL aK:Option Addr} (cT cO cP cL cK:Nat) {T O P:List Q4} {L:List F8} {K:List Kn} (id:Int) (hT:Quad w.heap.size w aT T) (hO:Quad w.heap.size w aO O) (hP:Quad w.heap.size w aP P) (hL:Fls w.heap.size w aL L) (hK:Kls w.heap.size w aK K) (mT:T.length≤1048576) (mL:L.length≤1048576) (sL:∀f ∈ L,f.2.2.length≤1048576) (mK:K.length≤1048576) (sK:∀c ∈ K,c.xs.length≤1048576) (h1:engB now nx T O P L K=false):Calls Tryz.prog 15 #[engV now aT T.length cT aO O.length cO aP P.length cP aL L.length cL aK K.length cK nx,.int .i64 id] w (EgPost w 0 0 [] [] [] [] [] (.int .i64 1)):=by
 have sKm:=szKn sK
 have mKm:=szMx mK
 obtain ⟨v,hv,nb,L0,L1⟩:=preZ w 31 [.int .i64 now,.slice aT T.length cT,.slice aO O.length cO,.slice aP P.length cP,.slice aL L.length cL,.slice aK K.length cK,.int .i64 nx]
 have hw1:=L1.lt
 go_enter Tryz.func15,Tryz.ntmps15
 go_upto_region 1 with (fail)
 rw [←hv]
 clear hv
 obtain ⟨q0,q1,q2,q3,q4,q5,q6⟩:=Lay.c7 (b:=w.heap.size) L0
 go_wp2_with (first|(go_at_call 40;refine (specEngineOk_is cT cO cP cL cK h1 (hT.here nb) (hO.here nb) (hP.here nb) (hL.here nb) (hK.here nb) mT mL mK sKm).mono ?_;rintro e v2 ⟨rfl,hb2⟩;have b2:=below_two nb hb2;have M0:=L0.next hb2;have M1:=L1.next hb2;clear q0 q1 q2 q3 q4 q5 q6;obtain ⟨q0,q1,q2,q3,q4,q5,q6⟩:=Lay.c7 (b:=w.heap.size) M0;skip)|(go_at_call 47;refine (l14No_bad now nx cT cO cP cL cK).mono ?_;rintro e u1 ⟨bT,dT,bO,dO,bP,dP,bL,dL,bK,dK,rfl,eg,hb1⟩;have HEG:Hid (Eng u1 v2.heap.size u1.heap.size (.slice bT 0 dT) (.slice bO 0 dO) (.slice bP 0 dP) (.slice bL 0 dL) (.slice bK 0 dK) [] [] [] [] []):=eg;have LU:=M1.next hb1;obtain ⟨z0,z1,z2,z3,z4,z5,z6⟩:=Lay.c7 (b:=w.heap.size+1) LU;have fz:=LU.free))
 obtain ⟨u,hu',ou,U⟩:=st7 (b:=w.heap.size+1) LU (.int .i64 0) (.slice bT 0 dT) (.slice bO 0 dO) (.slice bP 0 dP) (.slice bL 0 dL) (.slice bK 0 dK) (.int .i64 0)
 rw [hu']
 clear hu'
 have zu:=ou.size
 have bw:=below_two b2 hb1
 have zb:=b2.size
 have z2:=hb2.size
 have zbb:=b2.size
 refine bodyPost_ret (results_two rfl _ _ _ _ rfl U.cell Tryz.underlying31 rfl (by kernel_rfl)) rfl ?_
 exact ⟨bT,dT,bO,dO,bP,dP,bL,dL,bK,dK,rfl,engO HEG.out ou (by omega) (by omega) ou.size,bw.trans (ou.below (by omega) bw.size)⟩
theorem specCls_id {w:World} (now nx:Int) {aT aO aP aL aK:Option Addr} (cT cO cP cL cK:Nat) {T O P:List Q4} {L:List F8} {K:List Kn} (id:Int) (hT:Quad w.heap.size w aT T) (hO:Quad w.heap.size w aO O) (hP:Quad w.heap.size w aP P) (hL:Fls w.heap.size w aL L) (hK:Kls w.heap.size w aK K) (mT:T.length≤1048576) (mL:L.length≤1048576) (sL:∀f ∈ L,f.2.2.length≤1048576) (mK:K.length≤1048576) (sK:∀c ∈ K,c.xs.length≤1048576) (h1:engB now nx T O P L K=true) (hf:fK K id = -1):Calls Tryz.prog 15 #[engV now aT T.length cT aO O.length cO aP P.length cP aL L.length cL aK K.length cK nx,.int .i64 id] w (EgPost w now nx T O P L K (.int .i64 2)):=by
 have sKm:=szKn sK
 have mKm:=szMx mK
 obtain ⟨nT,nO,nP⟩:=eg_lens (eg_yes h1)
 obtain ⟨v,hv,nb,L0,L1⟩:=preZ w 31 [.int .i64 now,.slice aT T.length cT,.slice aO O.length cO,.slice aP P.length cP,.slice aL L.length cL,.slice aK K.length cK,.int .i64 nx]
 have hw1:=L1.lt
 go_enter Tryz.func15,Tryz.ntmps15
 go_upto_region 1 with (fail)
 rw [←hv]
 clear hv
 obtain ⟨q0,q1,q2,q3,q4,q5,q6⟩:=Lay.c7 (b:=w.heap.size) L0
 go_wp2_with (first|(go_at_call 40;refine (specEngineOk_is cT cO cP cL cK h1 (hT.here nb) (hO.here nb) (hP.here nb) (hL.here nb) (hK.here nb) mT mL mK sKm).mono ?_;rintro e v2 ⟨rfl,hb2⟩;have b2:=below_two nb hb2;have M0:=L0.next hb2;have M1:=L1.next hb2;clear q0 q1 q2 q3 q4 q5 q6;obtain ⟨q0,q1,q2,q3,q4,q5,q6⟩:=Lay.c7 (b:=w.heap.size) M0;skip)|(go_at_call 49;refine (specFind_any now nx id (hK.here b2) mKm).mono ?_;rintro e v3 ⟨rfl,hb3⟩;rw [hf];have b3:=below_two b2 hb3;have N0:=M0.next hb3;have N1:=M1.next hb3;clear q0 q1 q2 q3 q4 q5 q6;obtain ⟨q0,q1,q2,q3,q4,q5,q6⟩:=Lay.c7 (b:=w.heap.size) N0;skip)|(go_at_call 47;refine (l14No_code now nx cT cO cP cL cK (hT.here b3) (hO.here b3) (hP.here b3) (hL.here b3) (hK.here b3) nT nO nP mL sL mK sK 2 (by decide)).mono ?_;rintro e u1 ⟨bT,dT,bO,dO,bP,dP,bL,dL,bK,dK,rfl,eg,hb1⟩;have HEG:Hid (Eng u1 v3.heap.size u1.heap.size (.slice bT T.length dT) (.slice bO O.length dO) (.slice bP P.length dP) (.slice bL L.length dL) (.slice bK K.length dK) T O P L K):=eg;have LU:=N1.next hb1;obtain ⟨z0,z1,z2,z3,z4,z5,z6⟩:=Lay.c7 (b:=w.heap.size+1) LU;have fz:=LU.free))
 obtain ⟨u,hu',ou,U⟩:=st7 (b:=w.heap.size+1) LU (.int .i64 now) (.slice bT T.length dT) (.slice bO O.length dO) (.slice bP P.length dP) (.slice bL L.length dL) (.slice bK K.length dK) (.int .i64 nx)
 rw [hu']
 clear hu'
 have zu:=ou.size
 have bw:=below_two b3 hb1
 have zb:=b2.size
 have z2:=hb2.size
 have zbb:=b3.size
 have z3:=hb3.size
 refine bodyPost_ret (results_two rfl _ _ _ _ rfl U.cell Tryz.underlying31 rfl (by kernel_rfl)) rfl ?_
 exact ⟨bT,dT,bO,dO,bP,dP,bL,dL,bK,dK,rfl,engO HEG.out ou (by omega) (by omega) ou.size,bw.trans (ou.below (by omega) bw.size)⟩
theorem specCls_go {w:World} (now nx:Int) {aT aO aP aL aK:Option Addr} (cT cO cP cL cK:Nat) {T O P:List Q4} {L:List F8} {K:List Kn} (id:Int) (hT:Quad w.heap.size w aT T) (hO:Quad w.heap.size w aO O) (hP:Quad w.heap.size w aP P) (hL:Fls w.heap.size w aL L) (hK:Kls w.heap.size w aK K) (mT:T.length≤1048576) (mL:L.length≤1048576) (sL:∀f ∈ L,f.2.2.length≤1048576) (mK:K.length≤1048576) (sK:∀c ∈ K,c.xs.length≤1048576) (h1:engB now nx T O P L K=true) (i:Nat) (hi:i<K.length) (hf:fK K id=(i:Int)) (p:Nat) (hpl:K[i].pl=(p:Int)) (hp:p<L.length):Calls Tryz.prog 15 #[engV now aT T.length cT aO O.length cO aP P.length cP aL L.length cL aK K.length cK nx,.int .i64 id] w (EgPost w now nx T O P (L.set p (clsP L p id K[i].fl)) (K.eraseIdx i) (.int .i64 0)):=by
 have sKm:=szKn sK
 have mKm:=szMx mK
 obtain ⟨nT,nO,nP⟩:=eg_lens (eg_yes h1)
 have l0:=(eg_yes h1).l0
 obtain ⟨i2,hi2,hq0,hq1,hq2⟩:=info_parts info_connI
 have hi0:¬((i:Int)<0):=by omega
 have hi':(i:Int)<(K.length:Int):=by omega
 have hpb:=((eg_yes h1).pl p hp).1
 have hhas:=eg_has (eg_yes h1) hi hpl hp
 have hid:=fK_idc hi hf
 rw [hid] at hhas
 have h40:=(eg_yes h1).k1
 have hwn:w10B K[i].fl=true:=by
  have q:=(cc_num (eg_cc (eg_yes h1) hi).1).2.2.2.1
  unfold w10B
  simp only [Bool.and_eq_true,decide_eq_true_eq]
  exact q
 rw [clsP_at hp id K[i].fl]
 have HPB:Hid (plB L[p].1 L[p].2.1 L[p].2.2=true):=hpb
 have HHS:Hid (hasI id L[p].2.2=true):=hhas
 have HWN:Hid (w10B K[i].fl=true):=hwn
 have HPL:Hid (K[i].pl=(p:Int)):=hpl
 have hp':(p:Int)<(L.length:Int):=by omega
 have hp0:(0:Int)≤(p:Int):=by omega
 clear hpb hhas hwn hpl hid
 obtain ⟨v,hv,nb,L0,L1⟩:=preZ w 31 [.int .i64 now,.slice aT T.length cT,.slice aO O.length cO,.slice aP P.length cP,.slice aL L.length cL,.slice aK K.length cK,.int .i64 nx]
 have hw1:=L1.lt
 go_enter Tryz.func15,Tryz.ntmps15
 go_upto_region 1 with (fail)
 rw [←hv]
 clear hv
 obtain ⟨q0,q1,q2,q3,q4,q5,q6⟩:=Lay.c7 (b:=w.heap.size) L0
 go_upto_region 7 with (first|(go_at_call 40;refine (specEngineOk_is cT cO cP cL cK h1 (hT.here nb) (hO.here nb) (hP.here nb) (hL.here nb) (hK.here nb) mT mL mK sKm).mono ?_;rintro e v2 ⟨rfl,hb2⟩;have b2:=below_two nb hb2;have M0:=L0.next hb2;have M1:=L1.next hb2;clear q0 q1 q2 q3 q4 q5 q6;obtain ⟨q0,q1,q2,q3,q4,q5,q6⟩:=Lay.c7 (b:=w.heap.size) M0;skip)|(go_at_call 49;refine (specFind_any now nx id (hK.here b2) mKm).mono ?_;rintro e v3 ⟨rfl,hb3⟩;rw [hf];have b3:=below_two b2 hb3;have N0:=M0.next hb3;have N1:=M1.next hb3;clear q0 q1 q2 q3 q4 q5 q6;obtain ⟨q0,q1,q2,q3,q4,q5,q6⟩:=Lay.c7 (b:=w.heap.size) N0;skip)|(go_at_call 52;refine (l14Copy_any now nx cT cO cP cL cK (hT.here b3) (hO.here b3) (hP.here b3) (hL.here b3) (hK.here b3) nT nO nP mL sL mK sK).mono ?_;rintro e u1 ⟨bT,dT,bO,dO,bP,dP,bL,dL,bK,dK,GK,lh,ph,rfl,lv,lb,tv,ck,hz,hb1⟩))
 obtain ⟨gk,hbK⟩:∃gk,bK=some ⟨gk,0,none⟩:=by
  rcases ck.row.2 with ⟨e,e2⟩|⟨gk,capk,cur,e,_⟩
  ·omega
  ·injection e with e1
   exact ⟨gk,e1⟩
 subst hbK
 obtain ⟨gl,hbL⟩:∃gl,bL=some ⟨gl,0,none⟩:=by
  rcases tv with ⟨g,cap,vs,e,_⟩|⟨e,_⟩
  ·injection e with e1
   exact ⟨g,e1⟩
  ·rw [e] at l0
   simp at l0
 subst hbL
 obtain ⟨x,hx,LX,bx⟩:=new1 u1 31 [.int .i64 now,.slice bT T.length dT,.slice bO O.length dO,.slice bP P.length dP,.slice (some ⟨gl,0,none⟩) L.length dL,.slice (some ⟨gk,0,none⟩) K.length dK,.int .i64 nx]
 rw [←hx]
 clear hx q0 q1 q2 q3 q4 q5 q6
 have X1:=(N1.next hb1).next bx
 have z1:=hb1.size
 have zx:=bx.size
 have zb:=b3.size
 have z3:=hb3.size
 have hlx:=LX.lt
 have hn1:=N1.lt
 have hgl:=ck.len
 have hiG:i<GK.length:=by omega
 have hgi:GK[i].1=K[i]:=by
  have:(GK.map Prod.fst)[i]?=K[i]?:=by rw [ck.fst]
  rw [List.getElem?_map,List.getElem?_eq_getElem hiG,List.getElem?_eq_getElem hi] at this
  exact Option.some.inj this
 have HGK:Hid (GK[i].1=K[i]):=hgi
 obtain ⟨m,hm⟩:∃m,K[i].xs.length=m:=⟨_,rfl⟩
 have HM:Hid (K[i].xs.length=m):=hm
 have HXL:Hid (GK[i].1.xs.length=m):=by show GK[i].1.xs.length=m;rw [hgi];exact hm
 obtain ⟨sv,cv,hsv⟩:=own_slice (ck.ints i hiG)
 have HGI2:Hid (GK[i].2=.slice sv m cv):=by show GK[i].2=_;rw [hsv,HXL.out]
 have HSEP:Hid (∀q,GK[i].2.ownBlock=some q→ph≤q∧q<u1.heap.size):=fun q hq=>(ck.ints i hiG).lt q hq
 have hgk:=ck.row.lt gk rfl
 have hmi:m≤1048576:=by have:=sK K[i] (List.getElem_mem hi);omega
 have HCK1:Hid (CpK u1 ph (.slice (some ⟨gk,0,none⟩) K.length dK) GK K):=ck
 have CX:Hid (CpK x ph (.slice (some ⟨gk,0,none⟩) K.length dK) GK K):=ck.next bx
 have hzA:=hz.1
 have hzB:=hz.2.1
 have hzC:=hz.2.2
 have e13:x.cell? ⟨gk,i*14+13,none⟩=some (.slice sv m cv):=(CX.out.row.cellAt _ (by omega)).trans ((flatK_get GK i hiG 13 (by omega)).trans (by show some GK[i].2=_;rw [HGI2.out]))
 clear hgl hgi hsv hm
 have dd:∀j u,(cs14 (K[i],.slice sv m cv))[j]?=some u→x.cell? ⟨gk,i*14+j,none⟩=some u:=fun j u hu=>by
  have hj:=(List.getElem?_eq_some_iff.1 hu).1
  rw [cs14_length] at hj
  have hG:GK[i]=(K[i],.slice sv m cv):=Prod.ext HGK.out HGI2.out
  refine (CX.out.row.cellAt _ (by omega)).trans ((flatK_get GK i hiG j hj).trans ?_)
  rw [hG]
  exact hu
 have d0:x.cell? ⟨gk,i*14,none⟩=some (.int .i64 K[i].id):=dd 0 _ rfl
 have d1:x.cell? ⟨gk,i*14+1,none⟩=some (.int .i64 K[i].lf):=dd 1 _ rfl
 have d2:x.cell? ⟨gk,i*14+2,none⟩=some (.int .i64 (p:Int)):=by rw [←HPL.out];exact dd 2 _ rfl
 have d3:x.cell? ⟨gk,i*14+3,none⟩=some (.int .i64 K[i].k):=dd 3 _ rfl
 have d4:x.cell? ⟨gk,i*14+4,none⟩=some (.int .i64 K[i].wn):=dd 4 _ rfl
 have d5:x.cell? ⟨gk,i*14+5,none⟩=some (.int .i64 K[i].th):=dd 5 _ rfl
 have d6:x.cell? ⟨gk,i*14+6,none⟩=some (.int .i64 K[i].fl):=dd 6 _ rfl
 have d7:x.cell? ⟨gk,i*14+7,none⟩=some (.int .i64 K[i].ac):=dd 7 _ rfl
 have d8:x.cell? ⟨gk,i*14+8,none⟩=some (.int .i64 K[i].la):=dd 8 _ rfl
 have d9:x.cell? ⟨gk,i*14+9,none⟩=some (.int .i64 K[i].og):=dd 9 _ rfl
 have d10:x.cell? ⟨gk,i*14+10,none⟩=some (.int .i64 K[i].st):=dd 10 _ rfl
 have d11:x.cell? ⟨gk,i*14+11,none⟩=some (.int .i64 K[i].fr):=dd 11 _ rfl
 have d12:x.cell? ⟨gk,i*14+12,none⟩=some (.bool K[i].sl):=dd 12 _ rfl
 have d13:x.cell? ⟨gk,i*14+13,none⟩=some (.slice sv m cv):=dd 13 _ rfl
 obtain ⟨j0,j1,j2,j3,j4,j5,j6⟩:=LX.c7
 clear dd e13
 go_upto_region 8 with (fail)
 obtain ⟨y0,hy0,LC0,by0⟩:=new1 x 47 [.int .i64 K[i].id,.int .i64 K[i].lf,.int .i64 (p:Int),.int .i64 K[i].k,.int .i64 K[i].wn,.int .i64 K[i].th,.int .i64 K[i].fl,.int .i64 K[i].ac,.int .i64 K[i].la,.int .i64 K[i].og,.int .i64 K[i].st,.int .i64 K[i].fr,.bool K[i].sl,.slice sv m cv]
 rw [←hy0]
 clear hy0 d0 d1 d2 d3 d4 d5 d6 d7 d8 d9 d10 d11 d12 d13 j0 j1 j2 j3 j4 j5 j6
 have zy0:=by0.size
 have bxy:=below_two bx by0
 have zbxy:=bxy.size
 have hglb:lh≤gl∧gl<ph:=by
  rcases tv with ⟨g,cap,vs,e,_,f⟩|⟨e,_⟩
  ·injection e with e1
   injection e1 with e1
   injection e1 with e1
   subst e1
   exact ⟨f.g0,f.g1⟩
  ·rw [e] at l0
   simp at l0
 obtain ⟨uL,eo⟩:=cp_own2 lv lb tv ck ⟨hzA,hzB,by omega⟩
 have EY:Hid (EOwn y0 v3.heap.size u1.heap.size (.slice bT T.length dT) (.slice bO O.length dO) (.slice bP P.length dP) (.slice (some ⟨gl,0,none⟩) L.length dL) uL (.slice (some ⟨gk,0,none⟩) K.length dK) (GK.map (·.2)) T O P L K):=eo.next bxy
 have CY:Hid (CpK y0 ph (.slice (some ⟨gk,0,none⟩) K.length dK) GK K):=CX.out.next by0
 clear eo lv tv ck
 have hgl1:=hglb.1
 have hgl2:=hglb.2
 have LY:=LX.next by0
 have XY:=X1.next by0
 have LC:=LC0
 obtain ⟨q0,q1,qf,sa,sc,q2,qu,qsm⟩:=EY.out.plc hp
 have HSM:Hid (ISmp y0.heap.size y0 sa L[p].2.2):=qsm
 have HS:Hid (∀u,Below y0.heap.size y0 u→u.cell? ⟨u1.heap.size,4,none⟩=some (.slice (some ⟨gl,0,none⟩) L.length dL)∧u.cell? ⟨x.heap.size,2,none⟩=some (.int .i64 (p:Int))∧u.cell? ⟨x.heap.size,6,none⟩=some (.int .i64 K[i].fl)):=fun u hu=>⟨(LY.next hu).cell 4 _ rfl,(LC.next hu).cell 2 _ rfl,(LC.next hu).cell 6 _ rfl⟩
 clear qf qu qsm
 refine heldQ1 HS (Below.refl _ _).drew fun hS=>?_
 refine anyR 0 rfl ?_
 refine anyR 1 rfl ?_
 refine anyR 2 rfl ?_
 refine anyR 3 rfl ?_
 refine anyR 4 rfl ?_
 refine anyR 5 rfl ?_
 refine anyR 6 rfl ?_
 refine anyR 7 rfl ?_
 refine anyR 8 rfl ?_
 refine anyR 10 rfl ?_
 refine anyR 11 rfl ?_
 refine anyR 12 rfl ?_
 refine anyR 13 rfl ?_
 refine anyC 9 rfl fun Kr hKr=>?_
 go_simp
 refine hKr.out _ _ ‹_› fun _=>?_
 try simp only [nrm]
 refine anyC 14 rfl fun Kr hKr=>?_
 go_simp
 (refine (specQuit_yes sc HPB.out HHS.out HWN.out (HSM.out.here (Below.refl _ _).drew)).mono ?_;rintro e u5 ⟨va,nv,cv2,rfl,iv5,hb5⟩;have nz:=iv_lenC iv5;subst nz;have iv5:IV u5 y0.heap.size (.slice va (delI L[p].2.2 id).length cv2) (delI L[p].2.2 id):=iv5;have hb5:=undrewE hb5;have hS5:=HS.out _ hb5;have z5:=hb5.size;have HE5:=eoN EY hb5;obtain ⟨e0,e1,⟨pf0,pf1,pf2⟩,sb,sd,e2,pu,psm⟩:=HE5.out.plc hp)
 refine hKr.out _ _ ‹_› fun _=>?_
 try simp only [nrm]
 refine anyR 15 rfl ?_
 refine anyR 16 rfl ?_
 refine anyR 17 rfl ?_
 refine anyR 18 rfl ?_
 refine anyC 19 rfl fun Kr hKr=>?_
 go_simp
 obtain ⟨z,hzz⟩:∃z,z=u5.setCells gl (p*3) [.int .i64 L[p].1,.int .i64 (max 0 (L[p].2.1-K[i].fl)),.slice va (delI L[p].2.2 id).length cv2]:=⟨_,rfl⟩
 have hz':((u5.setCell ⟨gl,p*3,none⟩ (.int .i64 L[p].1)).setCell ⟨gl,p*3+1,none⟩ (.int .i64 (max 0 (L[p].2.1-K[i].fl)))).setCell ⟨gl,p*3+2,none⟩ (.slice va (delI L[p].2.2 id).length cv2)=z:=hzz.symm
 rw [hz']
 clear hz' e0 e1 pf0 pf1 pf2 e2 pu psm
 have ez:=HE5.out.setP (hi':=u5.heap.size) (q:=L[p].1) (d:=max 0 (L[p].2.1-K[i].fl)) hp (iv5.io.wider (by omega) (Nat.le_refl _)) (fun b hb=>.inr (fun hn=>by have:=(iv5.io.el hb).1;have:=HE5.out.bd hn;omega)) (by omega) (Nat.le_refl _)
 rw [←hzz] at ez
 have oz:Only gl u5 z:=by rw [hzz];exact onlyCells _ _ _
 clear hzz
 have LZ:=(LY.next hb5).only oz (by omega)
 have XZ:=(XY.next hb5).only oz (by omega)
 have CZ:=(LC.next hb5).only oz (by omega)
 have zoz:=oz.size
 refine hKr.out _ _ ⟨LZ.cell 4 _ rfl,CZ.cell 2 _ rfl,CZ.cell 6 _ rfl⟩ (fun hS=>?_)
 try simp only [nrm]
 refine wpAnyH_done (by kernel_rfl) ?_ _
 go_upto_region 9 with (fail)
 have CZK:Hid (CpK z ph (.slice (some ⟨gk,0,none⟩) K.length dK) GK K):=(CY.out.next hb5).only1 oz (by omega)
 have hgz:gk<z.heap.size:=by omega
 have hcap:K.length≤dK:=by
  rcases CZK.out.row.2 with ⟨e,_⟩|⟨g',cap',cur,e,_,_,hnc,_⟩
  ·cases e
  ·injection e with e1 e2 e3
   subst e3
   exact hnc
 have hgK:=CZK.out.len
 obtain ⟨ad,had,hrest⟩:=rest_at CZK.out (show i+1≤K.length by omega) hcap
 have ha:K.length≠0→ad.block=gk:=fun _=>by
  by_cases e:dK=i+1
  ·rw [if_pos e] at had
   rw [←Option.some.inj had]
  ·rw [if_neg e] at had
   rw [←Option.some.inj had]
   show ((⟨gk,0,none⟩:Addr).add ((i+1)*14)).block=gk
   rw [addr_add]
 have HAD:Hid (ad.block=gk):=ha (by omega)
 have HN1:Hid (∀j u,(flatK (GK.take i))[j]?=some u→z.cell? ⟨gk,0+j,none⟩=some u):=fun j u hu=>by
  have hj:=(List.getElem?_eq_some_iff.1 hu).1
  rw [flatK_length,List.length_take] at hj
  rw [←flatK_take,List.getElem?_take,if_pos (by omega)] at hu
  rw [Nat.zero_add]
  exact (CZK.out.row.cellAt _ (by omega)).trans hu
 have HN2:Hid (∀u,Below z.heap.size z u→∀j q,(flatK (GK.drop (i+1)))[j]?=some q→u.cell? (ad.add j)=some q):=fun u hu j q hq=>by
  have hb:=HAD.out
  refine (hu.cell (p:=ad.add j) ?_).trans (hrest j q hq)
  have:(ad.add j).block=ad.block:=by unfold Addr.add;split <;> rfl
  rw [this,hb]
  exact hgz
 have HL1:Hid ((flatK (GK.take i)).length=i*14):=by show (flatK (GK.take i)).length=_;rw [flatK_length,List.length_take];congr 1;omega
 have HL2:Hid ((flatK (GK.drop (i+1))).length=(K.length-(i+1))*14):=by show (flatK (GK.drop (i+1))).length=_;rw [flatK_length,List.length_drop,hgK]
 have HO1:Hid (∀u ∈ flatK (GK.take i),u.oneCell'=true):=flatK_sub (fun x hx=>List.mem_of_mem_take hx) (rows_one CZK.out)
 have HO2:Hid (∀u ∈ flatK (GK.drop (i+1)),u.oneCell'=true):=flatK_sub (fun x hx=>List.mem_of_mem_drop hx) (rows_one CZK.out)
 have HSA:Hid (∀w,(Instr.sliceAt 29 (.slice (some ⟨gk,0,none⟩) K.length dK) none (some (.int .i64 (i:Int))) none).run Tryz.prog w=.ok (.slice (some ⟨gk,0,none⟩) i dK) w):=fun w=>sliceK_to (by omega) hcap w
 have HSB:Hid (∀w,(Instr.sliceAt 29 (.slice (some ⟨gk,0,none⟩) K.length dK) (some (.int .i64 ((i:Int)+1))) none none).run Tryz.prog w=.ok (.slice (some ad) (K.length-(i+1)) (dK-(i+1))) w):=fun w=>by
  have q:=sliceK_from (a:=some ⟨gk,0,none⟩) (n:=K.length) (cap:=dK) (k:=i+1) (by omega) w
  rw [had] at q
  exact q
 have HWR:Hid (IntKind.i64.wrap ((i:Int)+1)=(i:Int)+1):=by show _=_;rw [IntKind.wrap_i64];omega
 have ON:Hid ((z.drew.alloc (.cells #[] 47)).ownsRow z.heap.size 47 14 (.slice (some ⟨z.heap.size,0,none⟩) 0 0) 0 []):=⟨rfl,.inr ⟨z.heap.size,0,#[],rfl,Nat.le_refl _,heap_alloc_new _ _,Nat.le_refl _,by unfold maxLen;omega,rfl,rfl⟩⟩
 have bA:Below z.heap.size z (z.drew.alloc (.cells #[] 47)):=((Below.refl _ z).drew).alloc (Nat.le_refl _) _
 have HS9:Hid (∀u,Below z.heap.size z u→u.cell? ⟨u1.heap.size,5,none⟩=some (.slice (some ⟨gk,0,none⟩) K.length dK)):=fun u hu=>(LZ.next hu).cell 5 _ rfl
 clear had hrest ha
 refine lateQ1 13 HS9 (Below.refl _ _).drew fun hS=>?_
 refine lateR 1 rfl ?_
 refine lateR 2 rfl ?_
 refine lateR 3 rfl ?_
 refine lateR 6 rfl ?_
 refine lateR 7 rfl ?_
 refine lateR 8 rfl ?_
 refine lateR 9 rfl ?_
 refine lateV 4 (v:=.slice (some ⟨gk,0,none⟩) i dK) rfl ?_ ?_
 ·(intro w' hSw;(try dsimp only at hSw);have h:=HSA.out w';simp [execOp,Act.eval,h,Result.andThen])
 try simp only [nrm]
 refine lateV 10 (v:=.slice (some ad) (K.length-(i+1)) (dK-(i+1))) rfl ?_ ?_
 ·(intro w' hSw;(try dsimp only at hSw);have h:=HSB.out w';simp [execOp,Act.eval,HWR.out,h,Result.andThen])
 try simp only [nrm]
 refine late_one (i:=0) (by kernel_rfl) rfl (fun Kr hKr=>?_)
 go_simp
 refine hKr.out _ _ (HS9.out _ (((Below.refl _ z).drew).alloc (Nat.le_refl _) _)) (fun hS=>?_)
 try simp only [nrm]
 refine late_one (i:=5) (by kernel_rfl) rfl (fun Kr hKr=>?_)
 rw [if_pos (by rfl)]
 have bA':Below z.heap.size z (z.alloc (.cells #[] 47)).drew:=((Below.refl _ z).alloc (Nat.le_refl _) _).drew
 refine wp_append_own _ _ _ 29 rfl z.heap.size 47 i2 _ 14 128 Tryz.underlying29 hi2 hq0 hq1 hq2 rfl (by decide) _ 0 [] rfl ON.out ⟨gk,0,none⟩ i _ (flatK (GK.take i)) rfl HL1.out (fun j u hu=>by have e:=(bA'.cell (p:=⟨gk,0+j,none⟩) (by show gk<_;omega)).trans (HN1.out j u hu);by_cases hj:j=0 <;> simpa [Addr.add,hj] using e) HO1.out (by unfold maxLen;omega) (by omega) (by simp) ?_
 intro v1 w1 hown1 hgr1 hnil1
 have bB:Below z.heap.size z w1:=bA.trans (((Below.refl _ _)).grown hgr1 (by simp) (fun k hk=>Nat.le_of_eq (Option.some.inj hk)))
 refine hKr.out _ _ (HS9.out _ bB) (fun hS=>?_)
 try simp only [nrm]
 refine late_one (i:=11) (by kernel_rfl) rfl (fun Kr hKr=>?_)
 rw [if_pos (by rfl)]
 refine wp_append_own _ _ _ 29 rfl z.heap.size 47 i2 _ 14 128 Tryz.underlying29 hi2 hq0 hq1 hq2 rfl (by decide) _ _ _ rfl hown1 ad (K.length-(i+1)) _ (flatK (GK.drop (i+1))) rfl HL2.out (HN2.out _ bB) HO2.out (by unfold maxLen;omega) (by omega) (by have:=bB.size;omega) ?_
 intro v2 w2 hown2 hgr2 hnil2
 rw [Nat.zero_add] at hown2
 obtain ⟨a2,c2,rfl⟩:=own_slice hown2
 have hv1:∀k,v1.ownBlock=some k→z.heap.size≤k:=fun k hk=>(hown1.lt k hk).1
 have bC:Below z.heap.size z w2:=bB.grown hgr2 (by have:=bB.size;omega) hv1
 have LQ:=LZ.next bC
 obtain ⟨j0,j1,j2,j3,j4,j5,j6⟩:=LQ.c7
 have jf:=LQ.free
 refine hKr.out _ _ (HS9.out _ bC) (fun hS=>?_)
 try simp only [nrm]
 refine lateR 12 rfl ?_
 refine late_last (by kernel_rfl) rfl (by kernel_rfl) (fun Kr hKr=>?_)
 go_simp
 refine hKr.out _ _ ?_
 try simp only [nrm]
 obtain ⟨q,hqq⟩:∃q,q=w2.setCells u1.heap.size 5 [.slice a2 (i+(K.length-(i+1))) c2]:=⟨_,rfl⟩
 have hq':w2.setCell ⟨u1.heap.size,5,none⟩ (.slice a2 (i+(K.length-(i+1))) c2)=q:=hqq.symm
 rw [hq']
 clear hq'
 have oq:Only u1.heap.size w2 q:=by rw [hqq];exact onlyCells _ _ _
 have LF:Lay q u1.heap.size [.int .i64 now,.slice bT T.length dT,.slice bO O.length dO,.slice bP P.length dP,.slice (some ⟨gl,0,none⟩) L.length dL,.slice a2 (i+(K.length-(i+1))) c2,.int .i64 nx]:=by rw [hqq];exact LQ.put (p:=[.int .i64 now,.slice bT T.length dT,.slice bO O.length dO,.slice bP P.length dP,.slice (some ⟨gl,0,none⟩) L.length dL]) (q:=[.slice (some ⟨gk,0,none⟩) K.length dK]) (r:=[.int .i64 nx]) [.slice a2 (i+(K.length-(i+1))) c2] rfl
 clear hqq j0 j1 j2 j3 j4 j5 j6 jf
 have zC:=bC.size
 have zoq:=oq.size
 have XF:=(XZ.next bC).only oq (by omega)
 obtain ⟨j0,j1,j2,j3,j4,j5,j6⟩:=LF.c7
 obtain ⟨r0,r1,r2,r3,r4,r5,r6⟩:=XF.c7
 have rf:=XF.free
 go_wp2
 obtain ⟨u,hu',ou,U⟩:=st7 (b:=w.heap.size+1) XF (.int .i64 now) (.slice bT T.length dT) (.slice bO O.length dO) (.slice bP P.length dP) (.slice (some ⟨gl,0,none⟩) L.length dL) (.slice a2 (i+(K.length-(i+1))) c2) (.int .i64 nx)
 rw [hu']
 clear hu'
 have hel:(K.eraseIdx i).length=i+(K.length-(i+1)):=by rw [List.length_eraseIdx_of_lt hi];omega
 have hty2:∀b,(Value.slice a2 (i+(K.length-(i+1))) c2).ownBlock=some b→z.heap.size≤b:=fun b e=>(hown2.lt b e).1
 have hrq:q.ownsRow ph 47 14 (.slice a2 (i+(K.length-(i+1))) c2) (K.eraseIdx i).length (flatK (GK.eraseIdx i)):=by
  rw [hel,flatK_erase GK hiG]
  refine row_keepO (row_lowE ?_ (show ph≤z.heap.size by omega)) (OnlyO.of_only oq) (fun b e e'=>by have:=hty2 b e;have:=Option.some.inj e';omega)
  have h2:=hown2
  try rw [List.nil_append] at h2
  exact h2
 have ckq:CpK q ph (.slice a2 (i+(K.length-(i+1))) c2) (GK.eraseIdx i) (K.eraseIdx i):=by
  exact ((CZK.out.next bC)).erase i hrq (fun j hj=>row_keepO ((CZK.out.next bC).ints j hj) (OnlyO.of_only oq) (fun b e e'=>by have:=(HCK1.out.sep j hj b e).1;have:=Option.some.inj e';omega)) oq.size
 have hno:¬inE (.slice bT T.length dT) (.slice bO O.length dO) (.slice bP P.length dP) (.slice (some ⟨gl,0,none⟩) (L.set p (L[p].1,max 0 (L[p].2.1-K[i].fl),delI L[p].2.2 id)).length dL) (uL.set p (.slice va (delI L[p].2.2 id).length cv2)) (.slice (some ⟨gk,0,none⟩) K.length dK) (GK.map (·.2)) u1.heap.size:=fun hb=>by
  rcases hb with h|h|h
  ·have:=EY.out.bd (.inl h)
   omega
  ·rcases inV_set (n:=L.length) h with h|h
   ·have:=EY.out.bd (.inr (.inl h))
    omega
   ·have:=(iv5.io.el h).1
    omega
  ·have:=EY.out.bd (.inr (.inr h))
   omega
 have eq1:=(ez.next bC).only oq hno
 have kx:=(ckq.kx hel.symm).wider (lo':=v3.heap.size) (by omega) (Nat.le_refl _) (Nat.le_refl _)
 have zu5:u5.heap.size≤z.heap.size:=oz.size
 have esw:=eq1.swapK kx (fun b hb=>by
  rcases hown2.2 with ⟨e,_⟩|⟨g',cap',cur,e,hg',_⟩
  ·injection e with e1
   subst e1
   exact absurd hb (fun h=>h)
  ·injection e with e1
   subst e1
   rcases hb.2 with h|⟨u',hu',h⟩
   ·have h:b=g':=h
    exact .inr (fun hn=>by have:=ez.bd hn;omega)
   ·refine .inl ⟨fun e=>?_,.inr ⟨u',?_,h⟩⟩
    ·have:(GK.map (·.2)).length=0:=by rw [e];rfl
     rw [List.length_map] at this
     omega
    ·rw [map_erase] at hu'
     exact List.mem_of_mem_eraseIdx hu') (by omega) (Nat.le_refl _) (ckq.rm hel.symm kx)
 have hnn:¬inE (.slice bT T.length dT) (.slice bO O.length dO) (.slice bP P.length dP) (.slice (some ⟨gl,0,none⟩) (L.set p (L[p].1,max 0 (L[p].2.1-K[i].fl),delI L[p].2.2 id)).length dL) (uL.set p (.slice va (delI L[p].2.2 id).length cv2)) (.slice a2 (i+(K.length-(i+1))) c2) ((GK.eraseIdx i).map (·.2)) (w.heap.size+1):=fun hb=>by have:=esw.bd hb;omega
 have eu:=esw.only ou hnn
 have bwy0:Below w.heap.size w y0:=(below_two b3 hb1).trans (bxy.mono (by omega))
 have bwz:Below w.heap.size w z:=(bwy0.trans (hb5.mono (by omega))).trans (oz.below (by omega) (by omega))
 have bwq:Below w.heap.size w q:=(bwz.trans (bC.mono bwz.size)).trans (oq.below (by omega) (by omega))
 have zu:=ou.size
 refine bodyPost_ret (results_two rfl _ _ _ _ rfl U.cell Tryz.underlying31 rfl (by kernel_rfl)) rfl ?_
 exact ⟨bT,dT,bO,dO,bP,dP,some ⟨gl,0,none⟩,dL,a2,c2,by rw [List.length_set,hel];rfl,by rw [hel];exact eu.eng.wider (by omega) (by omega),bwq.trans (ou.below (by omega) bwq.size)⟩
theorem implCls_bad {w:World} (now nx:Int) {aT aO aP aL aK:Option Addr} (cT cO cP cL cK:Nat) {T O P:List Q4} {L:List F8} {K:List Kn} (id:Int) (hT:Quad w.heap.size w aT T) (hO:Quad w.heap.size w aO O) (hP:Quad w.heap.size w aP P) (hL:Fls w.heap.size w aL L) (hK:Kls w.heap.size w aK K) (mL:L.length≤1048576) (sL:∀f ∈ L,f.2.2.length≤1048576) (mK:K.length≤1048576) (sK:∀c ∈ K,c.xs.length≤1048576) (h1:engB now nx T O P L K=false):Calls Tryz.prog 14 #[engV now aT T.length cT aO O.length cO aP P.length cP aL L.length cL aK K.length cK nx,.int .i64 id] w (EgPost w 0 0 [] [] [] [] [] (.int .i64 1)):=by
 obtain ⟨v,hv,nb,L0,L1⟩:=preZ w 31 [.int .i64 now,.slice aT T.length cT,.slice aO O.length cO,.slice aP P.length cP,.slice aL L.length cL,.slice aK K.length cK,.int .i64 nx]
 have hw1:=L1.lt
 go_enter Tryz.func14,Tryz.ntmps14
 go_upto_region 1 with (fail)
 rw [←hv]
 clear hv
 obtain ⟨q0,q1,q2,q3,q4,q5,q6⟩:=Lay.c7 (b:=w.heap.size) L0
 go_upto_region 2 with (first|(go_at_call 57;refine (copiedWith_bad now nx cT cO cP cL cK id (hT.here nb) (hO.here nb) (hP.here nb) (hL.here nb) (hK.here nb) mL sL mK sK h1).mono ?_;rintro e u1 ⟨bT,dT,bO,dO,bP,dP,bL,dL,bK,dK,rfl,eg,hb1⟩;have HEG:Hid (Eng u1 v.heap.size u1.heap.size (.slice bT 0 dT) (.slice bO 0 dO) (.slice bP 0 dP) (.slice bL 0 dL) (.slice bK 0 dK) [] [] [] [] []):=eg))
 obtain ⟨x,hx,LX,bx⟩:=new1 u1 31 [.int .i64 0,.slice bT 0 dT,.slice bO 0 dO,.slice bP 0 dP,.slice bL 0 dL,.slice bK 0 dK,.int .i64 0]
 rw [←hx]
 clear hx q0 q1 q2 q3 q4 q5 q6
 have X1:=(L1.next hb1).next bx
 have z1:=hb1.size
 have zx:=bx.size
 have zb:=nb.size
 have hlx:=LX.lt
 obtain ⟨j0,j1,j2,j3,j4,j5,j6⟩:=Lay.c7 (b:=u1.heap.size) LX
 obtain ⟨d0,d1,d2,d3,d4,d5,d6⟩:=Lay.c7 (b:=w.heap.size+1) X1
 have df:=X1.free
 go_wp2
 obtain ⟨u,hu',ou,U⟩:=st7 (b:=w.heap.size+1) X1 (.int .i64 0) (.slice bT 0 dT) (.slice bO 0 dO) (.slice bP 0 dP) (.slice bL 0 dL) (.slice bK 0 dK) (.int .i64 0)
 rw [hu']
 clear hu'
 have zu:=ou.size
 refine bodyPost_ret (results_two rfl _ _ _ _ rfl U.cell Tryz.underlying31 rfl (by kernel_rfl)) rfl ?_
 have bw:Below w.heap.size w x:=below_two (below_two nb hb1) bx
 have zbw:=bw.size
 exact ⟨bT,dT,bO,dO,bP,dP,bL,dL,bK,dK,rfl,engO (HEG.out.next bx) ou (by omega) (by omega) (by omega),bw.trans (ou.below (by omega) bw.size)⟩
theorem implCls_id {w:World} (now nx:Int) {aT aO aP aL aK:Option Addr} (cT cO cP cL cK:Nat) {T O P:List Q4} {L:List F8} {K:List Kn} (id:Int) (hT:Quad w.heap.size w aT T) (hO:Quad w.heap.size w aO O) (hP:Quad w.heap.size w aP P) (hL:Fls w.heap.size w aL L) (hK:Kls w.heap.size w aK K) (mL:L.length≤1048576) (sL:∀f ∈ L,f.2.2.length≤1048576) (mK:K.length≤1048576) (sK:∀c ∈ K,c.xs.length≤1048576) (h1:engB now nx T O P L K=true) (hf:fK K id = -1):Calls Tryz.prog 14 #[engV now aT T.length cT aO O.length cO aP P.length cP aL L.length cL aK K.length cK nx,.int .i64 id] w (EgPost w now nx T O P L K (.int .i64 2)):=by
 obtain ⟨v,hv,nb,L0,L1⟩:=preZ w 31 [.int .i64 now,.slice aT T.length cT,.slice aO O.length cO,.slice aP P.length cP,.slice aL L.length cL,.slice aK K.length cK,.int .i64 nx]
 have hw1:=L1.lt
 go_enter Tryz.func14,Tryz.ntmps14
 go_upto_region 1 with (fail)
 rw [←hv]
 clear hv
 obtain ⟨q0,q1,q2,q3,q4,q5,q6⟩:=Lay.c7 (b:=w.heap.size) L0
 go_upto_region 2 with (first|(go_at_call 57;refine (copiedWith_id now nx cT cO cP cL cK id (hT.here nb) (hO.here nb) (hP.here nb) (hL.here nb) (hK.here nb) mL sL mK sK h1 hf).mono ?_;rintro e u1 ⟨bT,dT,bO,dO,bP,dP,bL,dL,bK,dK,rfl,eg,hb1⟩;have HEG:Hid (Eng u1 v.heap.size u1.heap.size (.slice bT T.length dT) (.slice bO O.length dO) (.slice bP P.length dP) (.slice bL L.length dL) (.slice bK K.length dK) T O P L K):=eg))
 obtain ⟨x,hx,LX,bx⟩:=new1 u1 31 [.int .i64 now,.slice bT T.length dT,.slice bO O.length dO,.slice bP P.length dP,.slice bL L.length dL,.slice bK K.length dK,.int .i64 nx]
 rw [←hx]
 clear hx q0 q1 q2 q3 q4 q5 q6
 have X1:=(L1.next hb1).next bx
 have z1:=hb1.size
 have zx:=bx.size
 have zb:=nb.size
 have hlx:=LX.lt
 obtain ⟨j0,j1,j2,j3,j4,j5,j6⟩:=Lay.c7 (b:=u1.heap.size) LX
 obtain ⟨d0,d1,d2,d3,d4,d5,d6⟩:=Lay.c7 (b:=w.heap.size+1) X1
 have df:=X1.free
 go_wp2
 obtain ⟨u,hu',ou,U⟩:=st7 (b:=w.heap.size+1) X1 (.int .i64 now) (.slice bT T.length dT) (.slice bO O.length dO) (.slice bP P.length dP) (.slice bL L.length dL) (.slice bK K.length dK) (.int .i64 nx)
 rw [hu']
 clear hu'
 have zu:=ou.size
 refine bodyPost_ret (results_two rfl _ _ _ _ rfl U.cell Tryz.underlying31 rfl (by kernel_rfl)) rfl ?_
 have bw:Below w.heap.size w x:=below_two (below_two nb hb1) bx
 have zbw:=bw.size
 exact ⟨bT,dT,bO,dO,bP,dP,bL,dL,bK,dK,rfl,engO (HEG.out.next bx) ou (by omega) (by omega) (by omega),bw.trans (ou.below (by omega) bw.size)⟩
theorem implCls_go {w:World} (now nx:Int) {aT aO aP aL aK:Option Addr} (cT cO cP cL cK:Nat) {T O P:List Q4} {L:List F8} {K:List Kn} (id:Int) (hT:Quad w.heap.size w aT T) (hO:Quad w.heap.size w aO O) (hP:Quad w.heap.size w aP P) (hL:Fls w.heap.size w aL L) (hK:Kls w.heap.size w aK K) (mL:L.length≤1048576) (sL:∀f ∈ L,f.2.2.length≤1048576) (mK:K.length≤1048576) (sK:∀c ∈ K,c.xs.length≤1048576) (h1:engB now nx T O P L K=true) (i:Nat) (hi:i<K.length) (hf:fK K id=(i:Int)) (p:Nat) (hpl:K[i].pl=(p:Int)) (hp:p<L.length):Calls Tryz.prog 14 #[engV now aT T.length cT aO O.length cO aP P.length cP aL L.length cL aK K.length cK nx,.int .i64 id] w (EgPost w now nx T O P (L.set p (clsP L p id K[i].fl)) (K.eraseIdx i) (.int .i64 0)):=by
 have l0:=(eg_yes h1).l0
 have hi':(i:Int)<(K.length:Int):=by omega
 have hi0:(0:Int)≤(i:Int):=by omega
 have hpb:=((eg_yes h1).pl p hp).1
 have hhas:=eg_has (eg_yes h1) hi hpl hp
 have hid:=fK_idc hi hf
 rw [hid] at hhas
 have h40:=(eg_yes h1).k1
 have hwn:w10B K[i].fl=true:=by
  have q:=(cc_num (eg_cc (eg_yes h1) hi).1).2.2.2.1
  unfold w10B
  simp only [Bool.and_eq_true,decide_eq_true_eq]
  exact q
 rw [clsP_at hp id K[i].fl]
 have HPB:Hid (plB L[p].1 L[p].2.1 L[p].2.2=true):=hpb
 have HHS:Hid (hasI id L[p].2.2=true):=hhas
 have HWN:Hid (w10B K[i].fl=true):=hwn
 have HPL:Hid (K[i].pl=(p:Int)):=hpl
 have hp':(p:Int)<(L.length:Int):=by omega
 have hp0:(0:Int)≤(p:Int):=by omega
 clear hpb hhas hwn hpl hid
 obtain ⟨v,hv,nb,L0,L1⟩:=preZ w 31 [.int .i64 now,.slice aT T.length cT,.slice aO O.length cO,.slice aP P.length cP,.slice aL L.length cL,.slice aK K.length cK,.int .i64 nx]
 have hw1:=L1.lt
 go_enter Tryz.func14,Tryz.ntmps14
 go_upto_region 1 with (fail)
 rw [←hv]
 clear hv
 obtain ⟨q0,q1,q2,q3,q4,q5,q6⟩:=Lay.c7 (b:=w.heap.size) L0
 go_upto_region 2 with (first|(go_at_call 57;refine (copiedWith_go now nx cT cO cP cL cK id (hT.here nb) (hO.here nb) (hP.here nb) (hL.here nb) (hK.here nb) mL sL mK sK h1 i hi hf).mono ?_;rintro e u1 ⟨bT,dT,bO,dO,bP,dP,bL,dL,bK,dK,GK,lh,ph,rfl,lv,lb,tv,ck,hz,hb1⟩))
 obtain ⟨gk,hbK⟩:∃gk,bK=some ⟨gk,0,none⟩:=by
  rcases ck.row.2 with ⟨e,e2⟩|⟨gk,capk,cur,e,_⟩
  ·omega
  ·injection e with e1
   exact ⟨gk,e1⟩
 subst hbK
 obtain ⟨gl,hbL⟩:∃gl,bL=some ⟨gl,0,none⟩:=by
  rcases tv with ⟨g,cap,vs,e,_⟩|⟨e,_⟩
  ·injection e with e1
   exact ⟨g,e1⟩
  ·rw [e] at l0
   simp at l0
 subst hbL
 obtain ⟨x,hx,LX,bx⟩:=new1 u1 31 [.int .i64 now,.slice bT T.length dT,.slice bO O.length dO,.slice bP P.length dP,.slice (some ⟨gl,0,none⟩) L.length dL,.slice (some ⟨gk,0,none⟩) K.length dK,.int .i64 nx]
 rw [←hx]
 clear hx q0 q1 q2 q3 q4 q5 q6
 have X1:=(L1.next hb1).next bx
 have z1:=hb1.size
 have zx:=bx.size
 have zb:=nb.size
 have hlx:=LX.lt
 have hgl:=ck.len
 have hiG:i<GK.length:=by omega
 have hgi:GK[i].1=K[i]:=by
  have:(GK.map Prod.fst)[i]?=K[i]?:=by rw [ck.fst]
  rw [List.getElem?_map,List.getElem?_eq_getElem hiG,List.getElem?_eq_getElem hi] at this
  exact Option.some.inj this
 have HGK:Hid (GK[i].1=K[i]):=hgi
 obtain ⟨m,hm⟩:∃m,K[i].xs.length=m:=⟨_,rfl⟩
 have HM:Hid (K[i].xs.length=m):=hm
 have HXL:Hid (GK[i].1.xs.length=m):=by show GK[i].1.xs.length=m;rw [hgi];exact hm
 obtain ⟨sv,cv,hsv⟩:=own_slice (ck.ints i hiG)
 have HGI2:Hid (GK[i].2=.slice sv m cv):=by show GK[i].2=_;rw [hsv,HXL.out]
 have HSEP:Hid (∀q,GK[i].2.ownBlock=some q→ph≤q∧q<u1.heap.size):=fun q hq=>(ck.ints i hiG).lt q hq
 have hgk:=ck.row.lt gk rfl
 have hmi:m≤1048576:=by have:=sK K[i] (List.getElem_mem hi);omega
 have HCK1:Hid (CpK u1 ph (.slice (some ⟨gk,0,none⟩) K.length dK) GK K):=ck
 have CX:Hid (CpK x ph (.slice (some ⟨gk,0,none⟩) K.length dK) GK K):=ck.next bx
 have hzA:=hz.1
 have hzB:=hz.2.1
 have hzC:=hz.2.2
 have e13:x.cell? ⟨gk,i*14+13,none⟩=some (.slice sv m cv):=(CX.out.row.cellAt _ (by omega)).trans ((flatK_get GK i hiG 13 (by omega)).trans (by show some GK[i].2=_;rw [HGI2.out]))
 clear hgl hgi hsv hm
 have dd:∀j u,(cs14 (K[i],.slice sv m cv))[j]?=some u→x.cell? ⟨gk,i*14+j,none⟩=some u:=fun j u hu=>by
  have hj:=(List.getElem?_eq_some_iff.1 hu).1
  rw [cs14_length] at hj
  have hG:GK[i]=(K[i],.slice sv m cv):=Prod.ext HGK.out HGI2.out
  refine (CX.out.row.cellAt _ (by omega)).trans ((flatK_get GK i hiG j hj).trans ?_)
  rw [hG]
  exact hu
 have d0:x.cell? ⟨gk,i*14,none⟩=some (.int .i64 K[i].id):=dd 0 _ rfl
 have d1:x.cell? ⟨gk,i*14+1,none⟩=some (.int .i64 K[i].lf):=dd 1 _ rfl
 have d2:x.cell? ⟨gk,i*14+2,none⟩=some (.int .i64 (p:Int)):=by rw [←HPL.out];exact dd 2 _ rfl
 have d3:x.cell? ⟨gk,i*14+3,none⟩=some (.int .i64 K[i].k):=dd 3 _ rfl
 have d4:x.cell? ⟨gk,i*14+4,none⟩=some (.int .i64 K[i].wn):=dd 4 _ rfl
 have d5:x.cell? ⟨gk,i*14+5,none⟩=some (.int .i64 K[i].th):=dd 5 _ rfl
 have d6:x.cell? ⟨gk,i*14+6,none⟩=some (.int .i64 K[i].fl):=dd 6 _ rfl
 have d7:x.cell? ⟨gk,i*14+7,none⟩=some (.int .i64 K[i].ac):=dd 7 _ rfl
 have d8:x.cell? ⟨gk,i*14+8,none⟩=some (.int .i64 K[i].la):=dd 8 _ rfl
 have d9:x.cell? ⟨gk,i*14+9,none⟩=some (.int .i64 K[i].og):=dd 9 _ rfl
 have d10:x.cell? ⟨gk,i*14+10,none⟩=some (.int .i64 K[i].st):=dd 10 _ rfl
 have d11:x.cell? ⟨gk,i*14+11,none⟩=some (.int .i64 K[i].fr):=dd 11 _ rfl
 have d12:x.cell? ⟨gk,i*14+12,none⟩=some (.bool K[i].sl):=dd 12 _ rfl
 have d13:x.cell? ⟨gk,i*14+13,none⟩=some (.slice sv m cv):=dd 13 _ rfl
 obtain ⟨j0,j1,j2,j3,j4,j5,j6⟩:=LX.c7
 clear dd e13
 go_upto_region 5 with (fail)
 obtain ⟨y0,hy0,LC0,by0⟩:=new1 x 47 [.int .i64 K[i].id,.int .i64 K[i].lf,.int .i64 (p:Int),.int .i64 K[i].k,.int .i64 K[i].wn,.int .i64 K[i].th,.int .i64 K[i].fl,.int .i64 K[i].ac,.int .i64 K[i].la,.int .i64 K[i].og,.int .i64 K[i].st,.int .i64 K[i].fr,.bool K[i].sl,.slice sv m cv]
 rw [←hy0]
 clear hy0 d0 d1 d2 d3 d4 d5 d6 d7 d8 d9 d10 d11 d12 d13 j0 j1 j2 j3 j4 j5 j6
 have zy0:=by0.size
 have CY:Hid (CpK y0 ph (.slice (some ⟨gk,0,none⟩) K.length dK) GK K):=CX.out.next by0
 have hcap:K.length≤dK:=by
  rcases CX.out.row.2 with ⟨e,_⟩|⟨g',cap',cur,e,_,_,hnc,_⟩
  ·cases e
  ·injection e with e1 e2 e3
   subst e3
   exact hnc
 have LXy:=LX.next by0
 obtain ⟨j0,j1,j2,j3,j4,j5,j6⟩:=LXy.c7
 go_upto_region 6 with (first|(go_at_call 58;refine (delete1_any CY.out hi h40 hcap (by omega)).mono ?_;rintro e u2 ⟨rfl,ck2,o2⟩;have LX2:=(LX.next by0).only o2 (by omega);obtain ⟨j0,j1,j2,j3,j4,j5,j6⟩:=LX2.c7;have jf:=LX2.free))
 obtain ⟨y,hyy⟩:∃y,y=u2.setCells u1.heap.size 5 [.slice (some ⟨gk,0,none⟩) (K.eraseIdx i).length dK]:=⟨_,rfl⟩
 have hy':u2.setCell ⟨u1.heap.size,5,none⟩ (.slice (some ⟨gk,0,none⟩) (K.eraseIdx i).length dK)=y:=hyy.symm
 rw [hy']
 clear hy'
 have oy:Only u1.heap.size u2 y:=by rw [hyy];exact onlyCells _ _ _
 have LY:Lay y u1.heap.size [.int .i64 now,.slice bT T.length dT,.slice bO O.length dO,.slice bP P.length dP,.slice (some ⟨gl,0,none⟩) L.length dL,.slice (some ⟨gk,0,none⟩) (K.eraseIdx i).length dK,.int .i64 nx]:=by rw [hyy];exact LX2.put (p:=[.int .i64 now,.slice bT T.length dT,.slice bO O.length dO,.slice bP P.length dP,.slice (some ⟨gl,0,none⟩) L.length dL]) (q:=[.slice (some ⟨gk,0,none⟩) K.length dK]) (r:=[.int .i64 nx]) [.slice (some ⟨gk,0,none⟩) (K.eraseIdx i).length dK] rfl
 clear hyy j0 j1 j2 j3 j4 j5 j6 jf
 have zo2:=o2.size
 have zoy:=oy.size
 have XY:=((X1.next by0).only o2 (by omega)).only oy (by omega)
 have LC:=((LC0.only o2 (by omega)).only oy (by omega))
 have bxy:=below_two bx by0
 have zbxy:=bxy.size
 have lvy:LV y v.heap.size (.slice bT T.length dT) (.slice bO O.length dO) (.slice bP P.length dP) T O P:=((lv.next bxy).onlyP (OnlyP.ofOnly (p:=fun b=>b=gk) o2 rfl) (fun b e e'=>by have:=lb b (.inl e);omega) (fun b e e'=>by have:=lb b (.inr (.inl e));omega) (fun b e e'=>by have:=lb b (.inr (.inr e));omega)).onlyP (OnlyP.ofOnly (p:=fun b=>b=u1.heap.size) oy rfl) (fun b e e'=>by have:=lb b (.inl e);omega) (fun b e e'=>by have:=lb b (.inr (.inl e));omega) (fun b e e'=>by have:=lb b (.inr (.inr e));omega)
 have tvy:TV y lh ph (.slice (some ⟨gl,0,none⟩) L.length dL) L:=((tv.next bxy).same o2.size (fun b a1 a2 a3=>o2.block b a3 (by omega))).same oy.size (fun b a1 a2 a3=>oy.block b a3 (by omega))
 have hty2:∀b,(Value.slice (some ⟨gk,0,none⟩) (K.eraseIdx i).length dK).ownBlock=some b→b≠u1.heap.size:=fun b e=>by have e:gk=b:=Option.some.inj e;omega
 have cky:CpK y ph (.slice (some ⟨gk,0,none⟩) (K.eraseIdx i).length dK) (GK.eraseIdx i) (K.eraseIdx i):=by
  have kp:∀{e:TypeId} {s n:Nat} {v:Value} {xs:List Value},u2.ownsRow ph e s v n xs→(∀b,v.ownBlock=some b→b≠u1.heap.size)→y.ownsRow ph e s v n xs:=fun {e s n v xs} hr hne=>row_keepO hr (OnlyO.of_only oy) (fun b e e'=>hne b e (Option.some.inj e').symm)
  refine ⟨kp ck2.row hty2,ck2.fst,fun k hk=>kp (ck2.ints k hk) (fun b e=>?_),fun k hk b e=>⟨Nat.lt_of_lt_of_le (ck2.sep k hk b e).1 oy.size,(ck2.sep k hk b e).2⟩,ck2.z⟩
  obtain ⟨j,hj,e1,_⟩:=erase_at hk
  rw [e1] at e
  have:=(HCK1.out.sep j hj b e).1
  omega
 have tvk:=tvy
 have hglb:lh≤gl∧gl<ph:=by
  rcases tvk with ⟨g,cap,vs,e,_,f⟩|⟨e,_⟩
  ·injection e with e1
   injection e1 with e1
   injection e1 with e1
   subst e1
   exact ⟨f.g0,f.g1⟩
  ·rw [e] at l0
   simp at l0
 obtain ⟨uL,eo⟩:=cp_own2 lvy lb tvy cky ⟨hzA,hzB,by omega⟩
 have EY:Hid (EOwn y v.heap.size y.heap.size (.slice bT T.length dT) (.slice bO O.length dO) (.slice bP P.length dP) (.slice (some ⟨gl,0,none⟩) L.length dL) uL (.slice (some ⟨gk,0,none⟩) (K.eraseIdx i).length dK) ((GK.eraseIdx i).map (·.2)) T O P L (K.eraseIdx i)):=eo
 clear eo lvy tvy cky ck2 tvk lv tv
 have hgl1:=hglb.1
 have hgl2:=hglb.2
 obtain ⟨q0,q1,qf,sa,sc,q2,qu,qsm⟩:=EY.out.plc hp
 have HSM:Hid (ISmp y.heap.size y sa L[p].2.2):=qsm
 have HS:Hid (∀u,Below y.heap.size y u→u.cell? ⟨u1.heap.size,4,none⟩=some (.slice (some ⟨gl,0,none⟩) L.length dL)∧u.cell? ⟨x.heap.size,2,none⟩=some (.int .i64 (p:Int))∧u.cell? ⟨x.heap.size,6,none⟩=some (.int .i64 K[i].fl)):=fun u hu=>⟨(LY.next hu).cell 4 _ rfl,(LC.next hu).cell 2 _ rfl,(LC.next hu).cell 6 _ rfl⟩
 clear qf qu qsm
 refine heldQ1 HS (Below.refl _ _).drew fun hS=>?_
 refine anyR 0 rfl ?_
 refine anyR 1 rfl ?_
 refine anyR 2 rfl ?_
 refine anyR 3 rfl ?_
 refine anyR 4 rfl ?_
 refine anyR 5 rfl ?_
 refine anyR 6 rfl ?_
 refine anyR 7 rfl ?_
 refine anyR 8 rfl ?_
 refine anyR 10 rfl ?_
 refine anyR 11 rfl ?_
 refine anyR 12 rfl ?_
 refine anyR 13 rfl ?_
 refine anyC 9 rfl fun Kr hKr=>?_
 go_simp
 refine hKr.out _ _ ‹_› fun _=>?_
 try simp only [nrm]
 refine anyC 14 rfl fun Kr hKr=>?_
 go_simp
 (refine (implQuit_yes sc HPB.out HWN.out HHS.out (HSM.out.here (Below.refl _ _).drew)).mono ?_;rintro e u5 ⟨va,nv,cv2,rfl,iv5,hb5⟩;have nz:=iv_lenC iv5;subst nz;have iv5:IV u5 y.heap.size (.slice va (delI L[p].2.2 id).length cv2) (delI L[p].2.2 id):=iv5;have hb5:=undrewE hb5;have hS5:=HS.out _ hb5;have z5:=hb5.size;have HE5:=eoN EY hb5;obtain ⟨e0,e1,⟨pf0,pf1,pf2⟩,sb,sd,e2,pu,psm⟩:=HE5.out.plc hp)
 refine hKr.out _ _ ‹_› fun _=>?_
 try simp only [nrm]
 refine anyR 15 rfl ?_
 refine anyR 16 rfl ?_
 refine anyR 17 rfl ?_
 refine anyR 18 rfl ?_
 refine anyC 19 rfl fun Kr hKr=>?_
 go_simp
 obtain ⟨z,hzz⟩:∃z,z=u5.setCells gl (p*3) [.int .i64 L[p].1,.int .i64 (max 0 (L[p].2.1-K[i].fl)),.slice va (delI L[p].2.2 id).length cv2]:=⟨_,rfl⟩
 have hz':((u5.setCell ⟨gl,p*3,none⟩ (.int .i64 L[p].1)).setCell ⟨gl,p*3+1,none⟩ (.int .i64 (max 0 (L[p].2.1-K[i].fl)))).setCell ⟨gl,p*3+2,none⟩ (.slice va (delI L[p].2.2 id).length cv2)=z:=hzz.symm
 rw [hz']
 clear hz' e0 e1 pf0 pf1 pf2 e2 pu psm
 have ez:=HE5.out.setP (hi':=u5.heap.size) (q:=L[p].1) (d:=max 0 (L[p].2.1-K[i].fl)) hp (iv5.io.wider (by omega) (Nat.le_refl _)) (fun b hb=>.inr (fun hn=>by have:=(iv5.io.el hb).1;have:=HE5.out.bd hn;omega)) (by omega) (Nat.le_refl _)
 rw [←hzz] at ez
 have oz:Only gl u5 z:=by rw [hzz];exact onlyCells _ _ _
 clear hzz
 have LZ:=(LY.next hb5).only oz (by omega)
 have XZ:=(XY.next hb5).only oz (by omega)
 have CZ:=(LC.next hb5).only oz (by omega)
 have zoz:=oz.size
 refine hKr.out _ _ ⟨LZ.cell 4 _ rfl,CZ.cell 2 _ rfl,CZ.cell 6 _ rfl⟩ (fun hS=>?_)
 try simp only [nrm]
 refine wpAnyH_done (by kernel_rfl) ?_ _
 obtain ⟨j0,j1,j2,j3,j4,j5,j6⟩:=LZ.c7
 obtain ⟨r0,r1,r2,r3,r4,r5,r6⟩:=XZ.c7
 have rf:=XZ.free
 go_wp2
 obtain ⟨u,hu',ou,U⟩:=st7 (b:=w.heap.size+1) XZ (.int .i64 now) (.slice bT T.length dT) (.slice bO O.length dO) (.slice bP P.length dP) (.slice (some ⟨gl,0,none⟩) L.length dL) (.slice (some ⟨gk,0,none⟩) (K.eraseIdx i).length dK) (.int .i64 nx)
 rw [hu']
 clear hu'
 have bwy:Below w.heap.size w y:=(((below_two nb hb1).trans (bxy.mono (by omega))).trans (o2.below (by omega) (by omega))).trans (oy.below (by omega) (by omega))
 have bwz:Below w.heap.size w z:=(bwy.trans (hb5.mono (by omega))).trans (oz.below (by omega) (by omega))
 have hnn:¬inE (.slice bT T.length dT) (.slice bO O.length dO) (.slice bP P.length dP) (.slice (some ⟨gl,0,none⟩) (L.set p (L[p].1,max 0 (L[p].2.1-K[i].fl),delI L[p].2.2 id)).length dL) (uL.set p (.slice va (delI L[p].2.2 id).length cv2)) (.slice (some ⟨gk,0,none⟩) (K.eraseIdx i).length dK) ((GK.eraseIdx i).map (·.2)) (w.heap.size+1):=fun hb=>by have:=ez.bd hb;omega
 have eu:=ez.only ou hnn
 have zu:=ou.size
 refine bodyPost_ret (results_two rfl _ _ _ _ rfl U.cell Tryz.underlying31 rfl (by kernel_rfl)) rfl ?_
 exact ⟨bT,dT,bO,dO,bP,dP,some ⟨gl,0,none⟩,dL,some ⟨gk,0,none⟩,dK,by rw [List.length_set];rfl,eu.eng.wider (by omega) (by omega),bwz.trans (ou.below (by omega) bwz.size)⟩
theorem cls_small {T O P:List Q4} {L:List F8} {K:List Kn} (es:Small T O P L K) {i p:Nat} {id n:Int} (hp:p<L.length):Small T O P (L.set p (clsP L p id n)) (K.eraseIdx i):=by
 have h1:=es.setL (i:=p) (f:=clsP L p id n) (by
  rw [clsP_at hp]
  have:=es.lm L[p] (List.getElem_mem hp)
  have h2:(delI L[p].2.2 id).length≤L[p].2.2.length:=List.length_filter_le ..
  show (delI L[p].2.2 id).length≤1000
  omega)
 refine ⟨h1.t,h1.o,h1.p,h1.l,h1.lm,?_,fun c hc=>h1.km c (List.mem_of_mem_eraseIdx hc)⟩
 have:=h1.k
 rw [List.length_eraseIdx]
 split <;> omega
end Go.Proofs.YthiojkjcmhojoaaGreat
