import Derived.Test.YthiojkjcmhojoaaGreatGfBF
import Derived.Test.YthiojkjcmhojoaaGreatGfBG
namespace Go.Proofs.YthiojkjcmhojoaaGreat
set_option maxHeartbeats 8000000
open Go.ChangeShapes Go.WideShapes Go.ChangeAt Go.RowKit
set_option maxRecDepth 100000
set_option linter.unusedVariables false
set_option linter.unusedSimpArgs false
theorem zqi {w:World} (now nx:Int) {aT aO aP aL aK:Option Addr} (cT cO cP cL cK:Nat) {T O P:List Q4} {L:List F8} {K:List Kn} (id n:Int) (hT:Quad w.heap.size w aT T) (hO:Quad w.heap.size w aO O) (hP:Quad w.heap.size w aP P) (hL:Fls w.heap.size w aL L) (hK:Kls w.heap.size w aK K) (mT:T.length≤1048576) (mL:L.length≤1048576) (sL:∀f ∈ L,f.2.2.length≤1048576) (mK:K.length≤1048576) (sK:∀c ∈ K,c.xs.length≤1048576) (h1:zcy now nx T O P L K=true) (hf:fK K id = -1):Calls Tryz.prog 74 #[zcp now aT T.length cT aO O.length cO aP P.length cP aL L.length cL aK K.length cK nx,.int .i64 id,.int .i64 n] w (fun e w'=>e=.returned (.tuple #[.int .i64 (-1),.int .i64 2])∧Below w.heap.size w w'):=by
 have sKm:=zjj sK
 have mKm:=zng mK
 obtain ⟨v,hv,L0,nb⟩:=ze8 w 31 [.int .i64 now,.slice aT T.length cT,.slice aO O.length cO,.slice aP P.length cP,.slice aL L.length cL,.slice aK K.length cK,.int .i64 nx]
 go_enter Tryz.func74,Tryz.ntmps74
 go_upto_region 1 with (fail)
 rw [←hv]
 clear hv
 obtain ⟨q0,q1,q2,q3,q4,q5,q6⟩:=L0.c7
 go_wp2_with (first|(go_at_call 40;refine (za1 cT cO cP cL cK h1 (hT.here nb) (hO.here nb) (hP.here nb) (hL.here nb) (hK.here nb) mT mL mK sKm).mono ?_;rintro e v2 ⟨rfl,hb2⟩;have b2:=zaa nb hb2;have M0:=L0.next hb2;clear q0 q1 q2 q3 q4 q5 q6;obtain ⟨q0,q1,q2,q3,q4,q5,q6⟩:=M0.c7)|(go_at_call 49;refine (zcd now nx id (hK.here b2) mKm).mono ?_;rintro e v3 ⟨rfl,hb3⟩;rw [hf];have b3:=zaa b2 hb3;have N0:=M0.next hb3;clear q0 q1 q2 q3 q4 q5 q6;obtain ⟨q0,q1,q2,q3,q4,q5,q6⟩:=N0.c7;skip))
 go_ret2
 exact ⟨rfl,b3⟩
theorem zl0 {w:World} (now nx:Int) {aT aO aP aL aK:Option Addr} (cT cO cP cL cK:Nat) {T O P:List Q4} {L:List F8} {K:List Kn} (id n:Int) (hT:Quad w.heap.size w aT T) (hO:Quad w.heap.size w aO O) (hP:Quad w.heap.size w aP P) (hL:Fls w.heap.size w aL L) (hK:Kls w.heap.size w aK K) (mT:T.length≤1048576) (mL:L.length≤1048576) (sL:∀f ∈ L,f.2.2.length≤1048576) (mK:K.length≤1048576) (sK:∀c ∈ K,c.xs.length≤1048576) (h1:zcy now nx T O P L K=true) (i:Nat) (hi:i<K.length) (hf:fK K id=(i:Int)) (hg:inQ 1 n K[i].fl=false):Calls Tryz.prog 74 #[zcp now aT T.length cT aO O.length cO aP P.length cP aL L.length cL aK K.length cK nx,.int .i64 id,.int .i64 n] w (fun e w'=>e=.returned (.tuple #[.int .i64 (-1),.int .i64 7])∧Below w.heap.size w w'):=by
 have sKm:=zjj sK
 have mKm:=zng mK
 have hi0:¬((i:Int)<0):=by omega
 have hi':(i:Int)<(K.length:Int):=by omega
 obtain ⟨b,off,sa,sc,hak,hbl,d0,d13,sm⟩:=hK i hi
 subst hak
 have d6:=d0 6 _ rfl
 have hq:∀x,Below w.heap.size w x→x.cell? ⟨b,off+i*14+6,none⟩=some (.int .i64 K[i].fl):=fun x hx=>(hx.cell (by exact hbl)).trans d6
 clear d0 d13 sm d6
 obtain ⟨v,hv,L0,nb⟩:=ze8 w 31 [.int .i64 now,.slice aT T.length cT,.slice aO O.length cO,.slice aP P.length cP,.slice aL L.length cL,.slice (some ⟨b,off,none⟩) K.length cK,.int .i64 nx]
 go_enter Tryz.func74,Tryz.ntmps74
 go_upto_region 1 with (fail)
 rw [←hv]
 clear hv
 obtain ⟨q0,q1,q2,q3,q4,q5,q6⟩:=L0.c7
 go_wp2_with (first|(go_at_call 40;refine (za1 cT cO cP cL cK h1 (hT.here nb) (hO.here nb) (hP.here nb) (hL.here nb) (hK.here nb) mT mL mK sKm).mono ?_;rintro e v2 ⟨rfl,hb2⟩;have b2:=zaa nb hb2;have M0:=L0.next hb2;clear q0 q1 q2 q3 q4 q5 q6;obtain ⟨q0,q1,q2,q3,q4,q5,q6⟩:=M0.c7)|(go_at_call 49;refine (zcd now nx id (hK.here b2) mKm).mono ?_;rintro e v3 ⟨rfl,hb3⟩;rw [hf];have b3:=zaa b2 hb3;have N0:=M0.next hb3;clear q0 q1 q2 q3 q4 q5 q6;obtain ⟨q0,q1,q2,q3,q4,q5,q6⟩:=N0.c7;have c6:=hq v3 b3)|(go_at_call 48;refine (zbr hg _).mono ?_;rintro e w3 ⟨rfl,e3⟩;replace e3:=e3.symm;subst e3))
 go_ret2
 exact ⟨rfl,b3⟩
theorem zis {w:World} (now nx:Int) {aT aO aP aL aK:Option Addr} (cT cO cP cL cK:Nat) {T O P:List Q4} {L:List F8} {K:List Kn} (id n:Int) (hT:Quad w.heap.size w aT T) (hO:Quad w.heap.size w aO O) (hP:Quad w.heap.size w aP P) (hL:Fls w.heap.size w aL L) (hK:Kls w.heap.size w aK K) (mT:T.length≤1048576) (mL:L.length≤1048576) (sL:∀f ∈ L,f.2.2.length≤1048576) (mK:K.length≤1048576) (sK:∀c ∈ K,c.xs.length≤1048576) (h1:zcy now nx T O P L K=true) (i:Nat) (hi:i<K.length) (hf:fK K id=(i:Int)) (hg:inQ 1 n K[i].fl=true):Calls Tryz.prog 74 #[zcp now aT T.length cT aO O.length cO aP P.length cP aL L.length cL aK K.length cK nx,.int .i64 id,.int .i64 n] w (fun e w'=>e=.returned (.tuple #[.int .i64 (i:Int),.int .i64 0])∧Below w.heap.size w w'):=by
 have sKm:=zjj sK
 have mKm:=zng mK
 have hi0:¬((i:Int)<0):=by omega
 have hi':(i:Int)<(K.length:Int):=by omega
 obtain ⟨b,off,sa,sc,hak,hbl,d0,d13,sm⟩:=hK i hi
 subst hak
 have d6:=d0 6 _ rfl
 have hq:∀x,Below w.heap.size w x→x.cell? ⟨b,off+i*14+6,none⟩=some (.int .i64 K[i].fl):=fun x hx=>(hx.cell (by exact hbl)).trans d6
 clear d0 d13 sm d6
 obtain ⟨v,hv,L0,nb⟩:=ze8 w 31 [.int .i64 now,.slice aT T.length cT,.slice aO O.length cO,.slice aP P.length cP,.slice aL L.length cL,.slice (some ⟨b,off,none⟩) K.length cK,.int .i64 nx]
 go_enter Tryz.func74,Tryz.ntmps74
 go_upto_region 1 with (fail)
 rw [←hv]
 clear hv
 obtain ⟨q0,q1,q2,q3,q4,q5,q6⟩:=L0.c7
 go_wp2_with (first|(go_at_call 40;refine (za1 cT cO cP cL cK h1 (hT.here nb) (hO.here nb) (hP.here nb) (hL.here nb) (hK.here nb) mT mL mK sKm).mono ?_;rintro e v2 ⟨rfl,hb2⟩;have b2:=zaa nb hb2;have M0:=L0.next hb2;clear q0 q1 q2 q3 q4 q5 q6;obtain ⟨q0,q1,q2,q3,q4,q5,q6⟩:=M0.c7)|(go_at_call 49;refine (zcd now nx id (hK.here b2) mKm).mono ?_;rintro e v3 ⟨rfl,hb3⟩;rw [hf];have b3:=zaa b2 hb3;have N0:=M0.next hb3;clear q0 q1 q2 q3 q4 q5 q6;obtain ⟨q0,q1,q2,q3,q4,q5,q6⟩:=N0.c7;have c6:=hq v3 b3)|(go_at_call 48;refine (zbr hg _).mono ?_;rintro e w3 ⟨rfl,e3⟩;replace e3:=e3.symm;subst e3))
 go_ret2
 exact ⟨rfl,b3⟩
theorem zsc {w:World} (now nx:Int) {aT aO aP aL aK:Option Addr} (cT cO cP cL cK:Nat) {T O P:List Q4} {L:List F8} {K:List Kn} (id n:Int) (hT:Quad w.heap.size w aT T) (hO:Quad w.heap.size w aO O) (hP:Quad w.heap.size w aP P) (hL:Fls w.heap.size w aL L) (hK:Kls w.heap.size w aK K) (mT:T.length≤1048576) (mL:L.length≤1048576) (sL:∀f ∈ L,f.2.2.length≤1048576) (mK:K.length≤1048576) (sK:∀c ∈ K,c.xs.length≤1048576) (h1:zcy now nx T O P L K=true) (hf:fK K id = -1):Calls Tryz.prog 25 #[zcp now aT T.length cT aO O.length cO aP P.length cP aL L.length cL aK K.length cK nx,.int .i64 id,.int .i64 n] w (zbx w now nx T O P L K (.int .i64 2)):=by
 have sKm:=zjj sK
 have mKm:=zng mK
 obtain ⟨nT,nO,nP⟩:=zcb (zbc h1)
 obtain ⟨v,hv,nb,L0,L1⟩:=ziw w 31 [.int .i64 now,.slice aT T.length cT,.slice aO O.length cO,.slice aP P.length cP,.slice aL L.length cL,.slice aK K.length cK,.int .i64 nx]
 have hw1:=L1.lt
 go_enter Tryz.func25,Tryz.ntmps25
 go_upto_region 1 with (fail)
 rw [←hv]
 clear hv
 obtain ⟨q0,q1,q2,q3,q4,q5,q6⟩:=Lay.c7 (b:=w.heap.size) L0
 go_wp2_with (first|(go_at_call 74;refine (zqi now nx cT cO cP cL cK id n (hT.here nb) (hO.here nb) (hP.here nb) (hL.here nb) (hK.here nb) mT mL sL mK sK h1 hf).mono ?_;rintro e v2 ⟨rfl,hb2⟩;have b2:=zaa nb hb2;have M0:=L0.next hb2;have M1:=L1.next hb2;clear q0 q1 q2 q3 q4 q5 q6;obtain ⟨q0,q1,q2,q3,q4,q5,q6⟩:=M0.c7)|(go_at_call 47;refine (zco now nx cT cO cP cL cK (hT.here b2) (hO.here b2) (hP.here b2) (hL.here b2) (hK.here b2) nT nO nP mL sL mK sK 2 (by decide)).mono ?_;rintro e u1 ⟨bT,dT,bO,dO,bP,dP,bL,dL,bK,dK,rfl,eg,hb1⟩;have HEG:Hid (Eng u1 v2.heap.size u1.heap.size (.slice bT T.length dT) (.slice bO O.length dO) (.slice bP P.length dP) (.slice bL L.length dL) (.slice bK K.length dK) T O P L K):=eg;have LU:=M1.next hb1;obtain ⟨z0,z1,z2,z3,z4,z5,z6⟩:=Lay.c7 (b:=w.heap.size+1) LU;have fz:=LU.free))
 obtain ⟨u,hu',ou,U⟩:=st7 (b:=w.heap.size+1) LU (.int .i64 now) (.slice bT T.length dT) (.slice bO O.length dO) (.slice bP P.length dP) (.slice bL L.length dL) (.slice bK K.length dK) (.int .i64 nx)
 rw [hu']
 clear hu'
 have zu:=ou.size
 have bw:=zaa b2 hb1
 have zb:=b2.size
 have z2:=hb2.size
 have zbb:=b2.size
 refine bodyPost_ret (zak rfl _ _ _ _ rfl U.cell Tryz.underlying31 rfl (by kernel_rfl)) rfl ?_
 exact ⟨bT,dT,bO,dO,bP,dP,bL,dL,bK,dK,rfl,zvf HEG.out ou (by omega) (by omega) ou.size,bw.trans (ou.below (by omega) bw.size)⟩
theorem zn8 {w:World} (now nx:Int) {aT aO aP aL aK:Option Addr} (cT cO cP cL cK:Nat) {T O P:List Q4} {L:List F8} {K:List Kn} (id n:Int) (hT:Quad w.heap.size w aT T) (hO:Quad w.heap.size w aO O) (hP:Quad w.heap.size w aP P) (hL:Fls w.heap.size w aL L) (hK:Kls w.heap.size w aK K) (mT:T.length≤1048576) (mL:L.length≤1048576) (sL:∀f ∈ L,f.2.2.length≤1048576) (mK:K.length≤1048576) (sK:∀c ∈ K,c.xs.length≤1048576) (h1:zcy now nx T O P L K=true) (i:Nat) (hi:i<K.length) (hf:fK K id=(i:Int)) (hg:inQ 1 n K[i].fl=false):Calls Tryz.prog 25 #[zcp now aT T.length cT aO O.length cO aP P.length cP aL L.length cL aK K.length cK nx,.int .i64 id,.int .i64 n] w (zbx w now nx T O P L K (.int .i64 7)):=by
 have sKm:=zjj sK
 have mKm:=zng mK
 obtain ⟨nT,nO,nP⟩:=zcb (zbc h1)
 have hi0:¬((i:Int)<0):=by omega
 have hi':(i:Int)<(K.length:Int):=by omega
 obtain ⟨v,hv,nb,L0,L1⟩:=ziw w 31 [.int .i64 now,.slice aT T.length cT,.slice aO O.length cO,.slice aP P.length cP,.slice aL L.length cL,.slice aK K.length cK,.int .i64 nx]
 have hw1:=L1.lt
 go_enter Tryz.func25,Tryz.ntmps25
 go_upto_region 1 with (fail)
 rw [←hv]
 clear hv
 obtain ⟨q0,q1,q2,q3,q4,q5,q6⟩:=Lay.c7 (b:=w.heap.size) L0
 go_wp2_with (first|(go_at_call 74;refine (zl0 now nx cT cO cP cL cK id n (hT.here nb) (hO.here nb) (hP.here nb) (hL.here nb) (hK.here nb) mT mL sL mK sK h1 i hi hf hg).mono ?_;rintro e v2 ⟨rfl,hb2⟩;have b2:=zaa nb hb2;have M0:=L0.next hb2;have M1:=L1.next hb2;clear q0 q1 q2 q3 q4 q5 q6;obtain ⟨q0,q1,q2,q3,q4,q5,q6⟩:=M0.c7)|(go_at_call 47;refine (zco now nx cT cO cP cL cK (hT.here b2) (hO.here b2) (hP.here b2) (hL.here b2) (hK.here b2) nT nO nP mL sL mK sK 7 (by decide)).mono ?_;rintro e u1 ⟨bT,dT,bO,dO,bP,dP,bL,dL,bK,dK,rfl,eg,hb1⟩;have HEG:Hid (Eng u1 v2.heap.size u1.heap.size (.slice bT T.length dT) (.slice bO O.length dO) (.slice bP P.length dP) (.slice bL L.length dL) (.slice bK K.length dK) T O P L K):=eg;have LU:=M1.next hb1;obtain ⟨z0,z1,z2,z3,z4,z5,z6⟩:=Lay.c7 (b:=w.heap.size+1) LU;have fz:=LU.free))
 obtain ⟨u,hu',ou,U⟩:=st7 (b:=w.heap.size+1) LU (.int .i64 now) (.slice bT T.length dT) (.slice bO O.length dO) (.slice bP P.length dP) (.slice bL L.length dL) (.slice bK K.length dK) (.int .i64 nx)
 rw [hu']
 clear hu'
 have zu:=ou.size
 have bw:=zaa b2 hb1
 have zb:=b2.size
 have z2:=hb2.size
 have zbb:=b2.size
 refine bodyPost_ret (zak rfl _ _ _ _ rfl U.cell Tryz.underlying31 rfl (by kernel_rfl)) rfl ?_
 exact ⟨bT,dT,bO,dO,bP,dP,bL,dL,bK,dK,rfl,zvf HEG.out ou (by omega) (by omega) ou.size,bw.trans (ou.below (by omega) bw.size)⟩
theorem zqj {w:World} (now nx:Int) {aT aO aP aL aK:Option Addr} (cT cO cP cL cK:Nat) {T O P:List Q4} {L:List F8} {K:List Kn} (id n:Int) (hT:Quad w.heap.size w aT T) (hO:Quad w.heap.size w aO O) (hP:Quad w.heap.size w aP P) (hL:Fls w.heap.size w aL L) (hK:Kls w.heap.size w aK K) (mT:T.length≤1048576) (mL:L.length≤1048576) (sL:∀f ∈ L,f.2.2.length≤1048576) (mK:K.length≤1048576) (sK:∀c ∈ K,c.xs.length≤1048576) (h1:zcy now nx T O P L K=true) (i:Nat) (hi:i<K.length) (hf:fK K id=(i:Int)) (hg:inQ 1 n K[i].fl=true) (p:Nat) (hpl:K[i].pl=(p:Int)) (hp:p<L.length) (hk:K[i].k=1):Calls Tryz.prog 25 #[zcp now aT T.length cT aO O.length cO aP P.length cP aL L.length cL aK K.length cK nx,.int .i64 id,.int .i64 n] w (zbx w now nx T O P (L.set p (z1w L p n true)) (K.set i (K[i].cc (zhk K[i] n now true))) (.int .i64 0)):=by
 have sKm:=zjj sK
 have mKm:=zng mK
 obtain ⟨nT,nO,nP⟩:=zcb (zbc h1)
 have l0:=(zbc h1).l0
 have hi0:¬((i:Int)<0):=by omega
 have hi':(i:Int)<(K.length:Int):=by omega
 obtain ⟨hn9,hnn1,hff⟩:=zxh (zbc h1) hi hg
 have hpb:=((zbc h1).pl p hp).1
 obtain ⟨d,hd⟩:∃d,zhk K[i] n now true=d:=⟨_,rfl⟩
 have HD:Hid (zhk K[i] n now true=d):=hd
 rw [zh3 hp n true,hd]
 have HPB:Hid (plB L[p].1 L[p].2.1 L[p].2.2=true):=hpb
 have HNB:Hid (inQ 1 n 1000000000=true):=hn9
 have HPL:Hid (K[i].pl=(p:Int)):=hpl
 have hp':(p:Int)<(L.length:Int):=by omega
 have hp0:(0:Int)≤(p:Int):=by omega
 have hwf:IntKind.i64.wrap (K[i].fl-n)=K[i].fl-n:=by rw [IntKind.wrap_i64];omega
 clear hpb hn9 hd hpl
 have HD':Hid (zhh 1 K[i].wn K[i].th (K[i].fl-n) K[i].ac K[i].la K[i].og K[i].st K[i].fr K[i].sl=d):=by
  have q:=HD.out
  unfold zhk zu7 at q
  rw [if_pos rfl,hk,if_neg (by decide)] at q
  exact q
 have HK:Hid (K[i].k=1):=hk
 clear hk
 obtain ⟨v,hv,nb,L0,L1⟩:=ziw w 31 [.int .i64 now,.slice aT T.length cT,.slice aO O.length cO,.slice aP P.length cP,.slice aL L.length cL,.slice aK K.length cK,.int .i64 nx]
 have hw1:=L1.lt
 go_enter Tryz.func25,Tryz.ntmps25
 go_upto_region 1 with (fail)
 rw [←hv]
 clear hv
 obtain ⟨q0,q1,q2,q3,q4,q5,q6⟩:=Lay.c7 (b:=w.heap.size) L0
 go_upto_region 5 with (first|(go_at_call 74;refine (zis now nx cT cO cP cL cK id n (hT.here nb) (hO.here nb) (hP.here nb) (hL.here nb) (hK.here nb) mT mL sL mK sK h1 i hi hf hg).mono ?_;rintro e v2 ⟨rfl,hb2⟩;have b2:=zaa nb hb2;have M0:=L0.next hb2;have M1:=L1.next hb2;clear q0 q1 q2 q3 q4 q5 q6;obtain ⟨q0,q1,q2,q3,q4,q5,q6⟩:=M0.c7)|(go_at_call 52;refine (zct now nx cT cO cP cL cK (hT.here b2) (hO.here b2) (hP.here b2) (hL.here b2) (hK.here b2) nT nO nP mL sL mK sK).mono ?_;rintro e u1 ⟨bT,dT,bO,dO,bP,dP,bL,dL,bK,dK,GK,lh,ph,rfl,lv,lb,tv,ck,hz,hb1⟩))
 obtain ⟨uL,uK,eo⟩:=zqd lv lb tv ck hz
 obtain ⟨gl,hgl,hgl0,hgl1,hgl2⟩:=eo.atL (by omega)
 obtain ⟨gk,hgk,hgk0,hgk1,hgk2⟩:=eo.atK (by omega)
 subst hgl hgk
 have HE:Hid (EOwn u1 v2.heap.size u1.heap.size (.slice bT T.length dT) (.slice bO O.length dO) (.slice bP P.length dP) (.slice (some ⟨gl,0,none⟩) L.length dL) uL (.slice (some ⟨gk,0,none⟩) K.length dK) uK T O P L K):=eo
 clear eo lv lb tv ck
 obtain ⟨x,hx,LX,bx⟩:=ze8 u1 31 [.int .i64 now,.slice bT T.length dT,.slice bO O.length dO,.slice bP P.length dP,.slice (some ⟨gl,0,none⟩) L.length dL,.slice (some ⟨gk,0,none⟩) K.length dK,.int .i64 nx]
 rw [←hx]
 clear hx q0 q1 q2 q3 q4 q5 q6
 have X1:=(M1.next hb1).next bx
 have X0:=(M0.next hb1).next bx
 have z1:=hb1.size
 have zx:=bx.size
 have zb:=b2.size
 have z2:=hb2.size
 have hlx:=LX.lt
 have hn1:=M1.lt
 have bwx:Below w.heap.size w x:=zaa (zaa b2 hb1) bx
 obtain ⟨j0,j1,j2,j3,j4,j5,j6⟩:=LX.c7
 obtain ⟨k0,k1,k2,k3,k4,k5,k6,k7,k8,k9,k10,k11,k12⟩:=(HE.out.next bx).con hi
 rw [HK.out] at k3
 obtain ⟨f3,f4,f5,f6,f7,f8,f9,f10,f11,f12,f13⟩:=(HE.out.next bx).frz hi
 go_upto_region 7 with (fail)
 obtain ⟨y0,hy0⟩:∃y,y=x.setCell ⟨gk,i*14+6,none⟩ (.int .i64 (K[i].fl-n)):=⟨_,rfl⟩
 rw [←hy0]
 have o0:Only gk x y0:=by rw [hy0];exact (Only.refl _ x).setCell (p:=⟨gk,i*14+6,none⟩) rfl _
 have s0:y0.heap.size=x.heap.size:=by rw [hy0];simp
 have c3:y0.cell? ⟨gk,i*14+3,none⟩=some (.int .i64 1):=by rw [hy0];exact (zaf (by omega)).trans k3
 have c4:y0.cell? ⟨gk,i*14+4,none⟩=some (.int .i64 K[i].wn):=by rw [hy0];exact (zaf (by omega)).trans k4
 have c5:y0.cell? ⟨gk,i*14+5,none⟩=some (.int .i64 K[i].th):=by rw [hy0];exact (zaf (by omega)).trans k5
 have c6:y0.cell? ⟨gk,i*14+6,none⟩=some (.int .i64 (K[i].fl-n)):=by rw [hy0];exact zbt _ k6
 have c7:y0.cell? ⟨gk,i*14+7,none⟩=some (.int .i64 K[i].ac):=by rw [hy0];exact (zaf (by omega)).trans k7
 have c8:y0.cell? ⟨gk,i*14+8,none⟩=some (.int .i64 K[i].la):=by rw [hy0];exact (zaf (by omega)).trans k8
 have c9:y0.cell? ⟨gk,i*14+9,none⟩=some (.int .i64 K[i].og):=by rw [hy0];exact (zaf (by omega)).trans k9
 have c10:y0.cell? ⟨gk,i*14+10,none⟩=some (.int .i64 K[i].st):=by rw [hy0];exact (zaf (by omega)).trans k10
 have c11:y0.cell? ⟨gk,i*14+11,none⟩=some (.int .i64 K[i].fr):=by rw [hy0];exact (zaf (by omega)).trans k11
 have c12:y0.cell? ⟨gk,i*14+12,none⟩=some (.bool K[i].sl):=by rw [hy0];exact (zaf (by omega)).trans k12
 have c2:y0.cell? ⟨gk,i*14+2,none⟩=some (.int .i64 (p:Int)):=by rw [hy0,←HPL.out];exact (zaf (by omega)).trans k2
 have g3:y0.frozen? ⟨gk,i*14+3,none⟩=false:=by rw [hy0,World.frozen?_setCell];exact f3
 have g4:y0.frozen? ⟨gk,i*14+4,none⟩=false:=by rw [hy0,World.frozen?_setCell];exact f4
 have g5:y0.frozen? ⟨gk,i*14+5,none⟩=false:=by rw [hy0,World.frozen?_setCell];exact f5
 have g6:y0.frozen? ⟨gk,i*14+6,none⟩=false:=by rw [hy0,World.frozen?_setCell];exact f6
 have g7:y0.frozen? ⟨gk,i*14+7,none⟩=false:=by rw [hy0,World.frozen?_setCell];exact f7
 have g8:y0.frozen? ⟨gk,i*14+8,none⟩=false:=by rw [hy0,World.frozen?_setCell];exact f8
 have g9:y0.frozen? ⟨gk,i*14+9,none⟩=false:=by rw [hy0,World.frozen?_setCell];exact f9
 have g10:y0.frozen? ⟨gk,i*14+10,none⟩=false:=by rw [hy0,World.frozen?_setCell];exact f10
 have g11:y0.frozen? ⟨gk,i*14+11,none⟩=false:=by rw [hy0,World.frozen?_setCell];exact f11
 have g12:y0.frozen? ⟨gk,i*14+12,none⟩=false:=by rw [hy0,World.frozen?_setCell];exact f12
 have HY0:Hid (y0=x.setCell ⟨gk,i*14+6,none⟩ (.int .i64 (K[i].fl-n))):=hy0
 have zo0:=o0.size
 clear hy0 s0 j0 j1 j2 j3 j4 j5 j6 k0 k1 k2 k3 k4 k5 k6 k7 k8 k9 k10 k11 k12 f3 f4 f5 f6 f7 f8 f9 f10 f11 f12 f13
 go_upto_region 10 with (first|(go_at_call 78;refine (zjy _ _ _ _ _ _ _ _ _ _ _).mono ?_;rintro e u6 ⟨rfl,b6⟩;rw [HD'.out];have e2:=(b6.cell (p:=⟨gk,i*14+2,none⟩) (by show gk<_;omega)).trans c2;have e3:=(b6.cell (p:=⟨gk,i*14+3,none⟩) (by show gk<_;omega)).trans c3;have e4:=(b6.cell (p:=⟨gk,i*14+4,none⟩) (by show gk<_;omega)).trans c4;have e5:=(b6.cell (p:=⟨gk,i*14+5,none⟩) (by show gk<_;omega)).trans c5;have e6:=(b6.cell (p:=⟨gk,i*14+6,none⟩) (by show gk<_;omega)).trans c6;have e7:=(b6.cell (p:=⟨gk,i*14+7,none⟩) (by show gk<_;omega)).trans c7;have e8:=(b6.cell (p:=⟨gk,i*14+8,none⟩) (by show gk<_;omega)).trans c8;have e9:=(b6.cell (p:=⟨gk,i*14+9,none⟩) (by show gk<_;omega)).trans c9;have e10:=(b6.cell (p:=⟨gk,i*14+10,none⟩) (by show gk<_;omega)).trans c10;have e11:=(b6.cell (p:=⟨gk,i*14+11,none⟩) (by show gk<_;omega)).trans c11;have e12:=(b6.cell (p:=⟨gk,i*14+12,none⟩) (by show gk<_;omega)).trans c12;have h13:=(b6.frozen (p:=⟨gk,i*14+3,none⟩) (by show gk<_;omega)).trans g3;have h14:=(b6.frozen (p:=⟨gk,i*14+4,none⟩) (by show gk<_;omega)).trans g4;have h15:=(b6.frozen (p:=⟨gk,i*14+5,none⟩) (by show gk<_;omega)).trans g5;have h16:=(b6.frozen (p:=⟨gk,i*14+6,none⟩) (by show gk<_;omega)).trans g6;have h17:=(b6.frozen (p:=⟨gk,i*14+7,none⟩) (by show gk<_;omega)).trans g7;have h18:=(b6.frozen (p:=⟨gk,i*14+8,none⟩) (by show gk<_;omega)).trans g8;have h19:=(b6.frozen (p:=⟨gk,i*14+9,none⟩) (by show gk<_;omega)).trans g9;have h20:=(b6.frozen (p:=⟨gk,i*14+10,none⟩) (by show gk<_;omega)).trans g10;have h21:=(b6.frozen (p:=⟨gk,i*14+11,none⟩) (by show gk<_;omega)).trans g11;have h22:=(b6.frozen (p:=⟨gk,i*14+12,none⟩) (by show gk<_;omega)).trans g12))
 obtain ⟨y,hyy⟩:∃z,z=u6.setCells gk (i*14+3) (K[i].cc d).ccs:=⟨_,rfl⟩
 have hy':((((((((((u6.setCell ⟨gk,i*14+3,none⟩ (.int .i64 d.k)).setCell ⟨gk,i*14+4,none⟩ (.int .i64 d.wn)).setCell ⟨gk,i*14+5,none⟩ (.int .i64 d.th)).setCell ⟨gk,i*14+6,none⟩ (.int .i64 d.fl)).setCell ⟨gk,i*14+7,none⟩ (.int .i64 d.ac)).setCell ⟨gk,i*14+8,none⟩ (.int .i64 d.la)).setCell ⟨gk,i*14+9,none⟩ (.int .i64 d.og)).setCell ⟨gk,i*14+10,none⟩ (.int .i64 d.st)).setCell ⟨gk,i*14+11,none⟩ (.int .i64 d.fr)).setCell ⟨gk,i*14+12,none⟩ (.bool d.sl))=y:=hyy.symm
 rw [hy']
 clear hy'
 have oy:Only gk u6 y:=by rw [hyy];exact zba _ _ _
 have zb6:=b6.size
 have b6':Below x.heap.size (x.setCell ⟨gk,i*14+6,none⟩ (.int .i64 (K[i].fl-n))) u6:=by rw [←HY0.out];exact b6.mono (by omega)
 have ey0:=(HE.out.next bx).twoCc hi b6' (K[i].cc d) rfl rfl rfl rfl
 rw [←hyy] at ey0
 have EY:Hid (EOwn y v2.heap.size u1.heap.size (.slice bT T.length dT) (.slice bO O.length dO) (.slice bP P.length dP) (.slice (some ⟨gl,0,none⟩) L.length dL) uL (.slice (some ⟨gk,0,none⟩) (K.set i (K[i].cc d)).length dK) uK T O P L (K.set i (K[i].cc d))):=ey0
 have k2y:y.cell? ⟨gk,i*14+2,none⟩=some (.int .i64 (p:Int)):=by
  rw [hyy]
  exact (World.cell?_setCells_out gk _ _ u6 ⟨gk,i*14+2,none⟩ (fun _ _=>.inl (by show i*14+2<i*14+3;omega))).trans e2
 clear hyy ey0 c2 c3 c4 c5 c6 c7 c8 c9 c10 c11 c12 g3 g4 g5 g6 g7 g8 g9 g10 g11 g12 e2 e3 e4 e5 e6 e7 e8 e9 e10 e11 e12 h13 h14 h15 h16 h17 h18 h19 h20 h21 h22
 have zoy:=oy.size
 have LY:=(((LX.only o0 (by omega)).next b6).only oy (by omega))
 have XY:=(((X1.only o0 (by omega)).next b6).only oy (by omega))
 have bwy:Below w.heap.size w y:=((bwx.trans (o0.below (by omega) (by omega))).trans (b6.mono (by omega))).trans (oy.below (by omega) (by omega))
 obtain ⟨q0,q1,qf,sa,sc,q2,qu,qsm⟩:=EY.out.plc hp
 have HSM:Hid (ISmp y.heap.size y sa L[p].2.2):=qsm
 have HS:Hid (∀u,Below y.heap.size y u→u.cell? ⟨u1.heap.size,4,none⟩=some (.slice (some ⟨gl,0,none⟩) L.length dL)∧u.cell? ⟨gk,i*14+2,none⟩=some (.int .i64 (p:Int))∧u.cell? ⟨gl,p*3,none⟩=some (.int .i64 L[p].1)∧u.cell? ⟨gl,p*3+1,none⟩=some (.int .i64 L[p].2.1)∧u.cell? ⟨gl,p*3+2,none⟩=some (.slice sa L[p].2.2.length sc)):=fun u hu=>⟨(LY.next hu).cell 4 _ rfl,(hu.cell (by show gk<_;omega)).trans k2y,(hu.cell (by show gl<_;omega)).trans q0,(hu.cell (by show gl<_;omega)).trans q1,(hu.cell (by show gl<_;omega)).trans q2⟩
 clear q0 q1 q2 qf qu qsm k2y
 refine zgu 17 HS (Below.refl _ _).drew fun hS=>?_
 refine zae 0 rfl ?_
 refine zae 1 rfl ?_
 refine zae 2 rfl ?_
 refine zae 3 rfl ?_
 refine zae 4 rfl ?_
 refine zae 5 rfl ?_
 refine zae 6 rfl ?_
 refine zae 7 rfl ?_
 refine zae 8 rfl ?_
 refine zae 9 rfl ?_
 refine zae 10 rfl ?_
 refine zae 11 rfl ?_
 refine zae 12 rfl ?_
 refine zae 13 rfl ?_
 refine zae 14 rfl ?_
 refine zai (i:=15) (by kernel_rfl) rfl (fun Kr hKr=>?_)
 go_simp
 (refine (zfd sc HPB.out HNB.out (HSM.out.here (Below.refl _ _).drew)).mono ?_;rintro e u5 ⟨va,nv,cv,rfl,iv5,hb5⟩;have nz:=zgm iv5;subst nz;have iv5:IV u5 y.heap.size (.slice va L[p].2.2.length cv) L[p].2.2:=iv5;have hb5:=zbh hb5;have hS5:=HS.out _ hb5;have HE5:Hid (EOwn u5 v2.heap.size u1.heap.size (.slice bT T.length dT) (.slice bO O.length dO) (.slice bP P.length dP) (.slice (some ⟨gl,0,none⟩) L.length dL) uL (.slice (some ⟨gk,0,none⟩) (K.set i (K[i].cc d)).length dK) uK T O P L (K.set i (K[i].cc d))):=EY.out.next hb5;obtain ⟨p0,p1,⟨pf0,pf1,pf2⟩,sb,sd,p2,pu,psm⟩:=HE5.out.plc hp)
 refine hKr.out _ _ ‹_› fun _=>?_
 try simp only [nrm]
 refine zai (i:=16) (by kernel_rfl) rfl (fun Kr hKr=>?_)
 go_simp
 refine hKr.out _ _ ‹_› fun _=>?_
 try simp only [nrm]
 refine za4 (by kernel_rfl) rfl (by kernel_rfl) (fun Kr hKr=>?_)
 go_simp
 refine hKr.out _ _ ?_
 try simp only [nrm]
 obtain ⟨z,hzz⟩:∃z,z=u5.setCells gl (p*3) [.int .i64 (zdj L[p].1 n true),.int .i64 (max 0 (L[p].2.1-n)),.slice va L[p].2.2.length cv]:=⟨_,rfl⟩
 have hz':((u5.setCell ⟨gl,p*3,none⟩ (.int .i64 (zdj L[p].1 n true))).setCell ⟨gl,p*3+1,none⟩ (.int .i64 (max 0 (L[p].2.1-n)))).setCell ⟨gl,p*3+2,none⟩ (.slice va L[p].2.2.length cv)=z:=hzz.symm
 rw [hz']
 clear hz' p0 p1 pf0 pf1 pf2 p2 pu psm
 have z5:=hb5.size
 have ez:=HE5.out.setP (hi':=u5.heap.size) (q:=zdj L[p].1 n true) (d:=max 0 (L[p].2.1-n)) hp (iv5.io.wider (by omega) (Nat.le_refl _)) (fun b hb=>.inr (fun hn=>by have:=(iv5.io.el hb).1;have:=HE5.out.bd hn;omega)) (by omega) (Nat.le_refl _)
 rw [←hzz] at ez
 have oz:Only gl u5 z:=by rw [hzz];exact zba _ _ _
 clear hzz
 have LZ:=(LY.next hb5).only oz (by omega)
 have XZ:=(XY.next hb5).only oz (by omega)
 have zoz:=oz.size
 obtain ⟨j0,j1,j2,j3,j4,j5,j6⟩:=LZ.c7
 obtain ⟨r0,r1,r2,r3,r4,r5,r6⟩:=XZ.c7
 have rf:=XZ.free
 go_wp2
 obtain ⟨u,hu',ou,U⟩:=st7 (b:=w.heap.size+1) XZ (.int .i64 now) (.slice bT T.length dT) (.slice bO O.length dO) (.slice bP P.length dP) (.slice (some ⟨gl,0,none⟩) L.length dL) (.slice (some ⟨gk,0,none⟩) K.length dK) (.int .i64 nx)
 rw [hu']
 clear hu'
 have bwz:Below w.heap.size w z:=(bwy.trans (hb5.mono (by omega))).trans (oz.below (by omega) (by omega))
 have hnn:¬inE (.slice bT T.length dT) (.slice bO O.length dO) (.slice bP P.length dP) (.slice (some ⟨gl,0,none⟩) (L.set p (zdj L[p].1 n true,max 0 (L[p].2.1-n),L[p].2.2)).length dL) (uL.set p (.slice va L[p].2.2.length cv)) (.slice (some ⟨gk,0,none⟩) (K.set i (K[i].cc d)).length dK) uK (w.heap.size+1):=fun hb=>by have:=ez.bd hb;omega
 have eu:=ez.only ou hnn
 have zu:=ou.size
 refine bodyPost_ret (zak rfl _ _ _ _ rfl U.cell Tryz.underlying31 rfl (by kernel_rfl)) rfl ?_
 exact ⟨bT,dT,bO,dO,bP,dP,some ⟨gl,0,none⟩,dL,some ⟨gk,0,none⟩,dK,by rw [List.length_set,List.length_set];rfl,eu.eng.wider (by omega) (by omega),bwz.trans (ou.below (by omega) bwz.size)⟩
theorem zqk {w:World} (now nx:Int) {aT aO aP aL aK:Option Addr} (cT cO cP cL cK:Nat) {T O P:List Q4} {L:List F8} {K:List Kn} (id n:Int) (hT:Quad w.heap.size w aT T) (hO:Quad w.heap.size w aO O) (hP:Quad w.heap.size w aP P) (hL:Fls w.heap.size w aL L) (hK:Kls w.heap.size w aK K) (mT:T.length≤1048576) (mL:L.length≤1048576) (sL:∀f ∈ L,f.2.2.length≤1048576) (mK:K.length≤1048576) (sK:∀c ∈ K,c.xs.length≤1048576) (h1:zcy now nx T O P L K=true) (i:Nat) (hi:i<K.length) (hf:fK K id=(i:Int)) (hg:inQ 1 n K[i].fl=true) (p:Nat) (hpl:K[i].pl=(p:Int)) (hp:p<L.length) (hk:K[i].k=2):Calls Tryz.prog 25 #[zcp now aT T.length cT aO O.length cO aP P.length cP aL L.length cL aK K.length cK nx,.int .i64 id,.int .i64 n] w (zbx w now nx T O P (L.set p (z1w L p n true)) (K.set i (K[i].cc (zhk K[i] n now true))) (.int .i64 0)):=by
 have sKm:=zjj sK
 have mKm:=zng mK
 obtain ⟨nT,nO,nP⟩:=zcb (zbc h1)
 have l0:=(zbc h1).l0
 have hi0:¬((i:Int)<0):=by omega
 have hi':(i:Int)<(K.length:Int):=by omega
 obtain ⟨hn9,hnn1,hff⟩:=zxh (zbc h1) hi hg
 have hpb:=((zbc h1).pl p hp).1
 obtain ⟨d,hd⟩:∃d,zhk K[i] n now true=d:=⟨_,rfl⟩
 have HD:Hid (zhk K[i] n now true=d):=hd
 rw [zh3 hp n true,hd]
 have HPB:Hid (plB L[p].1 L[p].2.1 L[p].2.2=true):=hpb
 have HNB:Hid (inQ 1 n 1000000000=true):=hn9
 have HPL:Hid (K[i].pl=(p:Int)):=hpl
 have hp':(p:Int)<(L.length:Int):=by omega
 have hp0:(0:Int)≤(p:Int):=by omega
 have hwf:IntKind.i64.wrap (K[i].fl-n)=K[i].fl-n:=by rw [IntKind.wrap_i64];omega
 clear hpb hn9 hd hpl
 have HD':Hid (zhj 2 K[i].wn K[i].th (K[i].fl-n) K[i].ac K[i].la K[i].og K[i].st K[i].fr K[i].sl=d):=by
  have q:=HD.out
  unfold zhk zu7 at q
  rw [if_pos rfl,hk,if_pos rfl] at q
  exact q
 have HK:Hid (K[i].k=2):=hk
 clear hk
 obtain ⟨v,hv,nb,L0,L1⟩:=ziw w 31 [.int .i64 now,.slice aT T.length cT,.slice aO O.length cO,.slice aP P.length cP,.slice aL L.length cL,.slice aK K.length cK,.int .i64 nx]
 have hw1:=L1.lt
 go_enter Tryz.func25,Tryz.ntmps25
 go_upto_region 1 with (fail)
 rw [←hv]
 clear hv
 obtain ⟨q0,q1,q2,q3,q4,q5,q6⟩:=Lay.c7 (b:=w.heap.size) L0
 go_upto_region 5 with (first|(go_at_call 74;refine (zis now nx cT cO cP cL cK id n (hT.here nb) (hO.here nb) (hP.here nb) (hL.here nb) (hK.here nb) mT mL sL mK sK h1 i hi hf hg).mono ?_;rintro e v2 ⟨rfl,hb2⟩;have b2:=zaa nb hb2;have M0:=L0.next hb2;have M1:=L1.next hb2;clear q0 q1 q2 q3 q4 q5 q6;obtain ⟨q0,q1,q2,q3,q4,q5,q6⟩:=M0.c7)|(go_at_call 52;refine (zct now nx cT cO cP cL cK (hT.here b2) (hO.here b2) (hP.here b2) (hL.here b2) (hK.here b2) nT nO nP mL sL mK sK).mono ?_;rintro e u1 ⟨bT,dT,bO,dO,bP,dP,bL,dL,bK,dK,GK,lh,ph,rfl,lv,lb,tv,ck,hz,hb1⟩))
 obtain ⟨uL,uK,eo⟩:=zqd lv lb tv ck hz
 obtain ⟨gl,hgl,hgl0,hgl1,hgl2⟩:=eo.atL (by omega)
 obtain ⟨gk,hgk,hgk0,hgk1,hgk2⟩:=eo.atK (by omega)
 subst hgl hgk
 have HE:Hid (EOwn u1 v2.heap.size u1.heap.size (.slice bT T.length dT) (.slice bO O.length dO) (.slice bP P.length dP) (.slice (some ⟨gl,0,none⟩) L.length dL) uL (.slice (some ⟨gk,0,none⟩) K.length dK) uK T O P L K):=eo
 clear eo lv lb tv ck
 obtain ⟨x,hx,LX,bx⟩:=ze8 u1 31 [.int .i64 now,.slice bT T.length dT,.slice bO O.length dO,.slice bP P.length dP,.slice (some ⟨gl,0,none⟩) L.length dL,.slice (some ⟨gk,0,none⟩) K.length dK,.int .i64 nx]
 rw [←hx]
 clear hx q0 q1 q2 q3 q4 q5 q6
 have X1:=(M1.next hb1).next bx
 have X0:=(M0.next hb1).next bx
 have z1:=hb1.size
 have zx:=bx.size
 have zb:=b2.size
 have z2:=hb2.size
 have hlx:=LX.lt
 have hn1:=M1.lt
 have bwx:Below w.heap.size w x:=zaa (zaa b2 hb1) bx
 obtain ⟨j0,j1,j2,j3,j4,j5,j6⟩:=LX.c7
 obtain ⟨k0,k1,k2,k3,k4,k5,k6,k7,k8,k9,k10,k11,k12⟩:=(HE.out.next bx).con hi
 rw [HK.out] at k3
 obtain ⟨f3,f4,f5,f6,f7,f8,f9,f10,f11,f12,f13⟩:=(HE.out.next bx).frz hi
 go_upto_region 7 with (fail)
 obtain ⟨y0,hy0⟩:∃y,y=x.setCell ⟨gk,i*14+6,none⟩ (.int .i64 (K[i].fl-n)):=⟨_,rfl⟩
 rw [←hy0]
 have o0:Only gk x y0:=by rw [hy0];exact (Only.refl _ x).setCell (p:=⟨gk,i*14+6,none⟩) rfl _
 have s0:y0.heap.size=x.heap.size:=by rw [hy0];simp
 have c3:y0.cell? ⟨gk,i*14+3,none⟩=some (.int .i64 2):=by rw [hy0];exact (zaf (by omega)).trans k3
 have c4:y0.cell? ⟨gk,i*14+4,none⟩=some (.int .i64 K[i].wn):=by rw [hy0];exact (zaf (by omega)).trans k4
 have c5:y0.cell? ⟨gk,i*14+5,none⟩=some (.int .i64 K[i].th):=by rw [hy0];exact (zaf (by omega)).trans k5
 have c6:y0.cell? ⟨gk,i*14+6,none⟩=some (.int .i64 (K[i].fl-n)):=by rw [hy0];exact zbt _ k6
 have c7:y0.cell? ⟨gk,i*14+7,none⟩=some (.int .i64 K[i].ac):=by rw [hy0];exact (zaf (by omega)).trans k7
 have c8:y0.cell? ⟨gk,i*14+8,none⟩=some (.int .i64 K[i].la):=by rw [hy0];exact (zaf (by omega)).trans k8
 have c9:y0.cell? ⟨gk,i*14+9,none⟩=some (.int .i64 K[i].og):=by rw [hy0];exact (zaf (by omega)).trans k9
 have c10:y0.cell? ⟨gk,i*14+10,none⟩=some (.int .i64 K[i].st):=by rw [hy0];exact (zaf (by omega)).trans k10
 have c11:y0.cell? ⟨gk,i*14+11,none⟩=some (.int .i64 K[i].fr):=by rw [hy0];exact (zaf (by omega)).trans k11
 have c12:y0.cell? ⟨gk,i*14+12,none⟩=some (.bool K[i].sl):=by rw [hy0];exact (zaf (by omega)).trans k12
 have c2:y0.cell? ⟨gk,i*14+2,none⟩=some (.int .i64 (p:Int)):=by rw [hy0,←HPL.out];exact (zaf (by omega)).trans k2
 have g3:y0.frozen? ⟨gk,i*14+3,none⟩=false:=by rw [hy0,World.frozen?_setCell];exact f3
 have g4:y0.frozen? ⟨gk,i*14+4,none⟩=false:=by rw [hy0,World.frozen?_setCell];exact f4
 have g5:y0.frozen? ⟨gk,i*14+5,none⟩=false:=by rw [hy0,World.frozen?_setCell];exact f5
 have g6:y0.frozen? ⟨gk,i*14+6,none⟩=false:=by rw [hy0,World.frozen?_setCell];exact f6
 have g7:y0.frozen? ⟨gk,i*14+7,none⟩=false:=by rw [hy0,World.frozen?_setCell];exact f7
 have g8:y0.frozen? ⟨gk,i*14+8,none⟩=false:=by rw [hy0,World.frozen?_setCell];exact f8
 have g9:y0.frozen? ⟨gk,i*14+9,none⟩=false:=by rw [hy0,World.frozen?_setCell];exact f9
 have g10:y0.frozen? ⟨gk,i*14+10,none⟩=false:=by rw [hy0,World.frozen?_setCell];exact f10
 have g11:y0.frozen? ⟨gk,i*14+11,none⟩=false:=by rw [hy0,World.frozen?_setCell];exact f11
 have g12:y0.frozen? ⟨gk,i*14+12,none⟩=false:=by rw [hy0,World.frozen?_setCell];exact f12
 have HY0:Hid (y0=x.setCell ⟨gk,i*14+6,none⟩ (.int .i64 (K[i].fl-n))):=hy0
 have zo0:=o0.size
 clear hy0 s0 j0 j1 j2 j3 j4 j5 j6 k0 k1 k2 k3 k4 k5 k6 k7 k8 k9 k10 k11 k12 f3 f4 f5 f6 f7 f8 f9 f10 f11 f12 f13
 go_upto_region 10 with (first|(go_at_call 79;refine (zjg _ _ _ _ _ _ _ _ _ _ _).mono ?_;rintro e u6 ⟨rfl,b6⟩;rw [HD'.out];have e2:=(b6.cell (p:=⟨gk,i*14+2,none⟩) (by show gk<_;omega)).trans c2;have e3:=(b6.cell (p:=⟨gk,i*14+3,none⟩) (by show gk<_;omega)).trans c3;have e4:=(b6.cell (p:=⟨gk,i*14+4,none⟩) (by show gk<_;omega)).trans c4;have e5:=(b6.cell (p:=⟨gk,i*14+5,none⟩) (by show gk<_;omega)).trans c5;have e6:=(b6.cell (p:=⟨gk,i*14+6,none⟩) (by show gk<_;omega)).trans c6;have e7:=(b6.cell (p:=⟨gk,i*14+7,none⟩) (by show gk<_;omega)).trans c7;have e8:=(b6.cell (p:=⟨gk,i*14+8,none⟩) (by show gk<_;omega)).trans c8;have e9:=(b6.cell (p:=⟨gk,i*14+9,none⟩) (by show gk<_;omega)).trans c9;have e10:=(b6.cell (p:=⟨gk,i*14+10,none⟩) (by show gk<_;omega)).trans c10;have e11:=(b6.cell (p:=⟨gk,i*14+11,none⟩) (by show gk<_;omega)).trans c11;have e12:=(b6.cell (p:=⟨gk,i*14+12,none⟩) (by show gk<_;omega)).trans c12;have h13:=(b6.frozen (p:=⟨gk,i*14+3,none⟩) (by show gk<_;omega)).trans g3;have h14:=(b6.frozen (p:=⟨gk,i*14+4,none⟩) (by show gk<_;omega)).trans g4;have h15:=(b6.frozen (p:=⟨gk,i*14+5,none⟩) (by show gk<_;omega)).trans g5;have h16:=(b6.frozen (p:=⟨gk,i*14+6,none⟩) (by show gk<_;omega)).trans g6;have h17:=(b6.frozen (p:=⟨gk,i*14+7,none⟩) (by show gk<_;omega)).trans g7;have h18:=(b6.frozen (p:=⟨gk,i*14+8,none⟩) (by show gk<_;omega)).trans g8;have h19:=(b6.frozen (p:=⟨gk,i*14+9,none⟩) (by show gk<_;omega)).trans g9;have h20:=(b6.frozen (p:=⟨gk,i*14+10,none⟩) (by show gk<_;omega)).trans g10;have h21:=(b6.frozen (p:=⟨gk,i*14+11,none⟩) (by show gk<_;omega)).trans g11;have h22:=(b6.frozen (p:=⟨gk,i*14+12,none⟩) (by show gk<_;omega)).trans g12))
 obtain ⟨y,hyy⟩:∃z,z=u6.setCells gk (i*14+3) (K[i].cc d).ccs:=⟨_,rfl⟩
 have hy':((((((((((u6.setCell ⟨gk,i*14+3,none⟩ (.int .i64 d.k)).setCell ⟨gk,i*14+4,none⟩ (.int .i64 d.wn)).setCell ⟨gk,i*14+5,none⟩ (.int .i64 d.th)).setCell ⟨gk,i*14+6,none⟩ (.int .i64 d.fl)).setCell ⟨gk,i*14+7,none⟩ (.int .i64 d.ac)).setCell ⟨gk,i*14+8,none⟩ (.int .i64 d.la)).setCell ⟨gk,i*14+9,none⟩ (.int .i64 d.og)).setCell ⟨gk,i*14+10,none⟩ (.int .i64 d.st)).setCell ⟨gk,i*14+11,none⟩ (.int .i64 d.fr)).setCell ⟨gk,i*14+12,none⟩ (.bool d.sl))=y:=hyy.symm
 rw [hy']
 clear hy'
 have oy:Only gk u6 y:=by rw [hyy];exact zba _ _ _
 have zb6:=b6.size
 have b6':Below x.heap.size (x.setCell ⟨gk,i*14+6,none⟩ (.int .i64 (K[i].fl-n))) u6:=by rw [←HY0.out];exact b6.mono (by omega)
 have ey0:=(HE.out.next bx).twoCc hi b6' (K[i].cc d) rfl rfl rfl rfl
 rw [←hyy] at ey0
 have EY:Hid (EOwn y v2.heap.size u1.heap.size (.slice bT T.length dT) (.slice bO O.length dO) (.slice bP P.length dP) (.slice (some ⟨gl,0,none⟩) L.length dL) uL (.slice (some ⟨gk,0,none⟩) (K.set i (K[i].cc d)).length dK) uK T O P L (K.set i (K[i].cc d))):=ey0
 have k2y:y.cell? ⟨gk,i*14+2,none⟩=some (.int .i64 (p:Int)):=by
  rw [hyy]
  exact (World.cell?_setCells_out gk _ _ u6 ⟨gk,i*14+2,none⟩ (fun _ _=>.inl (by show i*14+2<i*14+3;omega))).trans e2
 clear hyy ey0 c2 c3 c4 c5 c6 c7 c8 c9 c10 c11 c12 g3 g4 g5 g6 g7 g8 g9 g10 g11 g12 e2 e3 e4 e5 e6 e7 e8 e9 e10 e11 e12 h13 h14 h15 h16 h17 h18 h19 h20 h21 h22
 have zoy:=oy.size
 have LY:=(((LX.only o0 (by omega)).next b6).only oy (by omega))
 have XY:=(((X1.only o0 (by omega)).next b6).only oy (by omega))
 have bwy:Below w.heap.size w y:=((bwx.trans (o0.below (by omega) (by omega))).trans (b6.mono (by omega))).trans (oy.below (by omega) (by omega))
 obtain ⟨q0,q1,qf,sa,sc,q2,qu,qsm⟩:=EY.out.plc hp
 have HSM:Hid (ISmp y.heap.size y sa L[p].2.2):=qsm
 have HS:Hid (∀u,Below y.heap.size y u→u.cell? ⟨u1.heap.size,4,none⟩=some (.slice (some ⟨gl,0,none⟩) L.length dL)∧u.cell? ⟨gk,i*14+2,none⟩=some (.int .i64 (p:Int))∧u.cell? ⟨gl,p*3,none⟩=some (.int .i64 L[p].1)∧u.cell? ⟨gl,p*3+1,none⟩=some (.int .i64 L[p].2.1)∧u.cell? ⟨gl,p*3+2,none⟩=some (.slice sa L[p].2.2.length sc)):=fun u hu=>⟨(LY.next hu).cell 4 _ rfl,(hu.cell (by show gk<_;omega)).trans k2y,(hu.cell (by show gl<_;omega)).trans q0,(hu.cell (by show gl<_;omega)).trans q1,(hu.cell (by show gl<_;omega)).trans q2⟩
 clear q0 q1 q2 qf qu qsm k2y
 refine zgu 17 HS (Below.refl _ _).drew fun hS=>?_
 refine zae 0 rfl ?_
 refine zae 1 rfl ?_
 refine zae 2 rfl ?_
 refine zae 3 rfl ?_
 refine zae 4 rfl ?_
 refine zae 5 rfl ?_
 refine zae 6 rfl ?_
 refine zae 7 rfl ?_
 refine zae 8 rfl ?_
 refine zae 9 rfl ?_
 refine zae 10 rfl ?_
 refine zae 11 rfl ?_
 refine zae 12 rfl ?_
 refine zae 13 rfl ?_
 refine zae 14 rfl ?_
 refine zai (i:=15) (by kernel_rfl) rfl (fun Kr hKr=>?_)
 go_simp
 (refine (zfd sc HPB.out HNB.out (HSM.out.here (Below.refl _ _).drew)).mono ?_;rintro e u5 ⟨va,nv,cv,rfl,iv5,hb5⟩;have nz:=zgm iv5;subst nz;have iv5:IV u5 y.heap.size (.slice va L[p].2.2.length cv) L[p].2.2:=iv5;have hb5:=zbh hb5;have hS5:=HS.out _ hb5;have HE5:Hid (EOwn u5 v2.heap.size u1.heap.size (.slice bT T.length dT) (.slice bO O.length dO) (.slice bP P.length dP) (.slice (some ⟨gl,0,none⟩) L.length dL) uL (.slice (some ⟨gk,0,none⟩) (K.set i (K[i].cc d)).length dK) uK T O P L (K.set i (K[i].cc d))):=EY.out.next hb5;obtain ⟨p0,p1,⟨pf0,pf1,pf2⟩,sb,sd,p2,pu,psm⟩:=HE5.out.plc hp)
 refine hKr.out _ _ ‹_› fun _=>?_
 try simp only [nrm]
 refine zai (i:=16) (by kernel_rfl) rfl (fun Kr hKr=>?_)
 go_simp
 refine hKr.out _ _ ‹_› fun _=>?_
 try simp only [nrm]
 refine za4 (by kernel_rfl) rfl (by kernel_rfl) (fun Kr hKr=>?_)
 go_simp
 refine hKr.out _ _ ?_
 try simp only [nrm]
 obtain ⟨z,hzz⟩:∃z,z=u5.setCells gl (p*3) [.int .i64 (zdj L[p].1 n true),.int .i64 (max 0 (L[p].2.1-n)),.slice va L[p].2.2.length cv]:=⟨_,rfl⟩
 have hz':((u5.setCell ⟨gl,p*3,none⟩ (.int .i64 (zdj L[p].1 n true))).setCell ⟨gl,p*3+1,none⟩ (.int .i64 (max 0 (L[p].2.1-n)))).setCell ⟨gl,p*3+2,none⟩ (.slice va L[p].2.2.length cv)=z:=hzz.symm
 rw [hz']
 clear hz' p0 p1 pf0 pf1 pf2 p2 pu psm
 have z5:=hb5.size
 have ez:=HE5.out.setP (hi':=u5.heap.size) (q:=zdj L[p].1 n true) (d:=max 0 (L[p].2.1-n)) hp (iv5.io.wider (by omega) (Nat.le_refl _)) (fun b hb=>.inr (fun hn=>by have:=(iv5.io.el hb).1;have:=HE5.out.bd hn;omega)) (by omega) (Nat.le_refl _)
 rw [←hzz] at ez
 have oz:Only gl u5 z:=by rw [hzz];exact zba _ _ _
 clear hzz
 have LZ:=(LY.next hb5).only oz (by omega)
 have XZ:=(XY.next hb5).only oz (by omega)
 have zoz:=oz.size
 obtain ⟨j0,j1,j2,j3,j4,j5,j6⟩:=LZ.c7
 obtain ⟨r0,r1,r2,r3,r4,r5,r6⟩:=XZ.c7
 have rf:=XZ.free
 go_wp2
 obtain ⟨u,hu',ou,U⟩:=st7 (b:=w.heap.size+1) XZ (.int .i64 now) (.slice bT T.length dT) (.slice bO O.length dO) (.slice bP P.length dP) (.slice (some ⟨gl,0,none⟩) L.length dL) (.slice (some ⟨gk,0,none⟩) K.length dK) (.int .i64 nx)
 rw [hu']
 clear hu'
 have bwz:Below w.heap.size w z:=(bwy.trans (hb5.mono (by omega))).trans (oz.below (by omega) (by omega))
 have hnn:¬inE (.slice bT T.length dT) (.slice bO O.length dO) (.slice bP P.length dP) (.slice (some ⟨gl,0,none⟩) (L.set p (zdj L[p].1 n true,max 0 (L[p].2.1-n),L[p].2.2)).length dL) (uL.set p (.slice va L[p].2.2.length cv)) (.slice (some ⟨gk,0,none⟩) (K.set i (K[i].cc d)).length dK) uK (w.heap.size+1):=fun hb=>by have:=ez.bd hb;omega
 have eu:=ez.only ou hnn
 have zu:=ou.size
 refine bodyPost_ret (zak rfl _ _ _ _ rfl U.cell Tryz.underlying31 rfl (by kernel_rfl)) rfl ?_
 exact ⟨bT,dT,bO,dO,bP,dP,some ⟨gl,0,none⟩,dL,some ⟨gk,0,none⟩,dK,by rw [List.length_set,List.length_set];rfl,eu.eng.wider (by omega) (by omega),bwz.trans (ou.below (by omega) bwz.size)⟩
theorem zql {w:World} (now nx:Int) {aT aO aP aL aK:Option Addr} (cT cO cP cL cK:Nat) {T O P:List Q4} {L:List F8} {K:List Kn} (id n:Int) (hT:Quad w.heap.size w aT T) (hO:Quad w.heap.size w aO O) (hP:Quad w.heap.size w aP P) (hL:Fls w.heap.size w aL L) (hK:Kls w.heap.size w aK K) (mT:T.length≤1048576) (mL:L.length≤1048576) (sL:∀f ∈ L,f.2.2.length≤1048576) (mK:K.length≤1048576) (sK:∀c ∈ K,c.xs.length≤1048576) (h1:zcy now nx T O P L K=true) (hf:fK K id = -1):Calls Tryz.prog 24 #[zcp now aT T.length cT aO O.length cO aP P.length cP aL L.length cL aK K.length cK nx,.int .i64 id,.int .i64 n] w (zbx w now nx T O P L K (.int .i64 2)):=by
 have sKm:=zjj sK
 have mKm:=zng mK
 obtain ⟨nT,nO,nP⟩:=zcb (zbc h1)
 obtain ⟨v,hv,nb,L0,L1⟩:=ziw w 31 [.int .i64 now,.slice aT T.length cT,.slice aO O.length cO,.slice aP P.length cP,.slice aL L.length cL,.slice aK K.length cK,.int .i64 nx]
 have hw1:=L1.lt
 go_enter Tryz.func24,Tryz.ntmps24
 go_upto_region 1 with (fail)
 rw [←hv]
 clear hv
 obtain ⟨q0,q1,q2,q3,q4,q5,q6⟩:=Lay.c7 (b:=w.heap.size) L0
 go_wp2_with (first|(go_at_call 74;refine (zqi now nx cT cO cP cL cK id n (hT.here nb) (hO.here nb) (hP.here nb) (hL.here nb) (hK.here nb) mT mL sL mK sK h1 hf).mono ?_;rintro e v2 ⟨rfl,hb2⟩;have b2:=zaa nb hb2;have M0:=L0.next hb2;have M1:=L1.next hb2;clear q0 q1 q2 q3 q4 q5 q6;obtain ⟨q0,q1,q2,q3,q4,q5,q6⟩:=M0.c7)|(go_at_call 47;refine (zco now nx cT cO cP cL cK (hT.here b2) (hO.here b2) (hP.here b2) (hL.here b2) (hK.here b2) nT nO nP mL sL mK sK 2 (by decide)).mono ?_;rintro e u1 ⟨bT,dT,bO,dO,bP,dP,bL,dL,bK,dK,rfl,eg,hb1⟩;have HEG:Hid (Eng u1 v2.heap.size u1.heap.size (.slice bT T.length dT) (.slice bO O.length dO) (.slice bP P.length dP) (.slice bL L.length dL) (.slice bK K.length dK) T O P L K):=eg;have LU:=M1.next hb1;obtain ⟨z0,z1,z2,z3,z4,z5,z6⟩:=Lay.c7 (b:=w.heap.size+1) LU;have fz:=LU.free))
 obtain ⟨u,hu',ou,U⟩:=st7 (b:=w.heap.size+1) LU (.int .i64 now) (.slice bT T.length dT) (.slice bO O.length dO) (.slice bP P.length dP) (.slice bL L.length dL) (.slice bK K.length dK) (.int .i64 nx)
 rw [hu']
 clear hu'
 have zu:=ou.size
 have bw:=zaa b2 hb1
 have zb:=b2.size
 have z2:=hb2.size
 have zbb:=b2.size
 refine bodyPost_ret (zak rfl _ _ _ _ rfl U.cell Tryz.underlying31 rfl (by kernel_rfl)) rfl ?_
 exact ⟨bT,dT,bO,dO,bP,dP,bL,dL,bK,dK,rfl,zvf HEG.out ou (by omega) (by omega) ou.size,bw.trans (ou.below (by omega) bw.size)⟩
theorem zmm {w:World} (now nx:Int) {aT aO aP aL aK:Option Addr} (cT cO cP cL cK:Nat) {T O P:List Q4} {L:List F8} {K:List Kn} (id n:Int) (hT:Quad w.heap.size w aT T) (hO:Quad w.heap.size w aO O) (hP:Quad w.heap.size w aP P) (hL:Fls w.heap.size w aL L) (hK:Kls w.heap.size w aK K) (mT:T.length≤1048576) (mL:L.length≤1048576) (sL:∀f ∈ L,f.2.2.length≤1048576) (mK:K.length≤1048576) (sK:∀c ∈ K,c.xs.length≤1048576) (h1:zcy now nx T O P L K=true) (i:Nat) (hi:i<K.length) (hf:fK K id=(i:Int)) (hg:inQ 1 n K[i].fl=false):Calls Tryz.prog 24 #[zcp now aT T.length cT aO O.length cO aP P.length cP aL L.length cL aK K.length cK nx,.int .i64 id,.int .i64 n] w (zbx w now nx T O P L K (.int .i64 7)):=by
 have sKm:=zjj sK
 have mKm:=zng mK
 obtain ⟨nT,nO,nP⟩:=zcb (zbc h1)
 have hi0:¬((i:Int)<0):=by omega
 have hi':(i:Int)<(K.length:Int):=by omega
 obtain ⟨v,hv,nb,L0,L1⟩:=ziw w 31 [.int .i64 now,.slice aT T.length cT,.slice aO O.length cO,.slice aP P.length cP,.slice aL L.length cL,.slice aK K.length cK,.int .i64 nx]
 have hw1:=L1.lt
 go_enter Tryz.func24,Tryz.ntmps24
 go_upto_region 1 with (fail)
 rw [←hv]
 clear hv
 obtain ⟨q0,q1,q2,q3,q4,q5,q6⟩:=Lay.c7 (b:=w.heap.size) L0
 go_wp2_with (first|(go_at_call 74;refine (zl0 now nx cT cO cP cL cK id n (hT.here nb) (hO.here nb) (hP.here nb) (hL.here nb) (hK.here nb) mT mL sL mK sK h1 i hi hf hg).mono ?_;rintro e v2 ⟨rfl,hb2⟩;have b2:=zaa nb hb2;have M0:=L0.next hb2;have M1:=L1.next hb2;clear q0 q1 q2 q3 q4 q5 q6;obtain ⟨q0,q1,q2,q3,q4,q5,q6⟩:=M0.c7)|(go_at_call 47;refine (zco now nx cT cO cP cL cK (hT.here b2) (hO.here b2) (hP.here b2) (hL.here b2) (hK.here b2) nT nO nP mL sL mK sK 7 (by decide)).mono ?_;rintro e u1 ⟨bT,dT,bO,dO,bP,dP,bL,dL,bK,dK,rfl,eg,hb1⟩;have HEG:Hid (Eng u1 v2.heap.size u1.heap.size (.slice bT T.length dT) (.slice bO O.length dO) (.slice bP P.length dP) (.slice bL L.length dL) (.slice bK K.length dK) T O P L K):=eg;have LU:=M1.next hb1;obtain ⟨z0,z1,z2,z3,z4,z5,z6⟩:=Lay.c7 (b:=w.heap.size+1) LU;have fz:=LU.free))
 obtain ⟨u,hu',ou,U⟩:=st7 (b:=w.heap.size+1) LU (.int .i64 now) (.slice bT T.length dT) (.slice bO O.length dO) (.slice bP P.length dP) (.slice bL L.length dL) (.slice bK K.length dK) (.int .i64 nx)
 rw [hu']
 clear hu'
 have zu:=ou.size
 have bw:=zaa b2 hb1
 have zb:=b2.size
 have z2:=hb2.size
 have zbb:=b2.size
 refine bodyPost_ret (zak rfl _ _ _ _ rfl U.cell Tryz.underlying31 rfl (by kernel_rfl)) rfl ?_
 exact ⟨bT,dT,bO,dO,bP,dP,bL,dL,bK,dK,rfl,zvf HEG.out ou (by omega) (by omega) ou.size,bw.trans (ou.below (by omega) bw.size)⟩
theorem zn9 {w:World} (now nx:Int) {aT aO aP aL aK:Option Addr} (cT cO cP cL cK:Nat) {T O P:List Q4} {L:List F8} {K:List Kn} (id n:Int) (hT:Quad w.heap.size w aT T) (hO:Quad w.heap.size w aO O) (hP:Quad w.heap.size w aP P) (hL:Fls w.heap.size w aL L) (hK:Kls w.heap.size w aK K) (mT:T.length≤1048576) (mL:L.length≤1048576) (sL:∀f ∈ L,f.2.2.length≤1048576) (mK:K.length≤1048576) (sK:∀c ∈ K,c.xs.length≤1048576) (h1:zcy now nx T O P L K=true) (i:Nat) (hi:i<K.length) (hf:fK K id=(i:Int)) (hg:inQ 1 n K[i].fl=true) (p:Nat) (hpl:K[i].pl=(p:Int)) (hp:p<L.length) (hk:K[i].k=1):Calls Tryz.prog 24 #[zcp now aT T.length cT aO O.length cO aP P.length cP aL L.length cL aK K.length cK nx,.int .i64 id,.int .i64 n] w (zbx w now nx T O P (L.set p (z1w L p n false)) (K.set i (K[i].cc (zhk K[i] n now false))) (.int .i64 0)):=by
 have sKm:=zjj sK
 have mKm:=zng mK
 obtain ⟨nT,nO,nP⟩:=zcb (zbc h1)
 have l0:=(zbc h1).l0
 have hi0:¬((i:Int)<0):=by omega
 have hi':(i:Int)<(K.length:Int):=by omega
 obtain ⟨hn9,hnn1,hff⟩:=zxh (zbc h1) hi hg
 have hpb:=((zbc h1).pl p hp).1
 obtain ⟨d,hd⟩:∃d,zhk K[i] n now false=d:=⟨_,rfl⟩
 have HD:Hid (zhk K[i] n now false=d):=hd
 rw [zh3 hp n false,hd]
 have HPB:Hid (plB L[p].1 L[p].2.1 L[p].2.2=true):=hpb
 have HNB:Hid (inQ 1 n 1000000000=true):=hn9
 have HPL:Hid (K[i].pl=(p:Int)):=hpl
 have hp':(p:Int)<(L.length:Int):=by omega
 have hp0:(0:Int)≤(p:Int):=by omega
 clear hpb hn9 hd hpl
 have HD':Hid (zmi 1 K[i].wn K[i].th K[i].fl K[i].ac K[i].la K[i].og K[i].st K[i].fr K[i].sl n=d):=by
  have q:=HD.out
  unfold zhk ackD at q
  rw [if_neg (by decide),hk,if_neg (by decide)] at q
  exact q
 have HK:Hid (K[i].k=1):=hk
 clear hk
 obtain ⟨v,hv,nb,L0,L1⟩:=ziw w 31 [.int .i64 now,.slice aT T.length cT,.slice aO O.length cO,.slice aP P.length cP,.slice aL L.length cL,.slice aK K.length cK,.int .i64 nx]
 have hw1:=L1.lt
 go_enter Tryz.func24,Tryz.ntmps24
 go_upto_region 1 with (fail)
 rw [←hv]
 clear hv
 obtain ⟨q0,q1,q2,q3,q4,q5,q6⟩:=Lay.c7 (b:=w.heap.size) L0
 go_upto_region 5 with (first|(go_at_call 74;refine (zis now nx cT cO cP cL cK id n (hT.here nb) (hO.here nb) (hP.here nb) (hL.here nb) (hK.here nb) mT mL sL mK sK h1 i hi hf hg).mono ?_;rintro e v2 ⟨rfl,hb2⟩;have b2:=zaa nb hb2;have M0:=L0.next hb2;have M1:=L1.next hb2;clear q0 q1 q2 q3 q4 q5 q6;obtain ⟨q0,q1,q2,q3,q4,q5,q6⟩:=M0.c7)|(go_at_call 52;refine (zct now nx cT cO cP cL cK (hT.here b2) (hO.here b2) (hP.here b2) (hL.here b2) (hK.here b2) nT nO nP mL sL mK sK).mono ?_;rintro e u1 ⟨bT,dT,bO,dO,bP,dP,bL,dL,bK,dK,GK,lh,ph,rfl,lv,lb,tv,ck,hz,hb1⟩))
 obtain ⟨uL,uK,eo⟩:=zqd lv lb tv ck hz
 obtain ⟨gl,hgl,hgl0,hgl1,hgl2⟩:=eo.atL (by omega)
 obtain ⟨gk,hgk,hgk0,hgk1,hgk2⟩:=eo.atK (by omega)
 subst hgl hgk
 have HE:Hid (EOwn u1 v2.heap.size u1.heap.size (.slice bT T.length dT) (.slice bO O.length dO) (.slice bP P.length dP) (.slice (some ⟨gl,0,none⟩) L.length dL) uL (.slice (some ⟨gk,0,none⟩) K.length dK) uK T O P L K):=eo
 clear eo lv lb tv ck
 obtain ⟨x,hx,LX,bx⟩:=ze8 u1 31 [.int .i64 now,.slice bT T.length dT,.slice bO O.length dO,.slice bP P.length dP,.slice (some ⟨gl,0,none⟩) L.length dL,.slice (some ⟨gk,0,none⟩) K.length dK,.int .i64 nx]
 rw [←hx]
 clear hx q0 q1 q2 q3 q4 q5 q6
 have X1:=(M1.next hb1).next bx
 have X0:=(M0.next hb1).next bx
 have z1:=hb1.size
 have zx:=bx.size
 have zb:=b2.size
 have z2:=hb2.size
 have hlx:=LX.lt
 have hn1:=M1.lt
 have bwx:Below w.heap.size w x:=zaa (zaa b2 hb1) bx
 obtain ⟨j0,j1,j2,j3,j4,j5,j6⟩:=LX.c7
 obtain ⟨k0,k1,k2,k3,k4,k5,k6,k7,k8,k9,k10,k11,k12⟩:=(HE.out.next bx).con hi
 rw [HK.out] at k3
 go_upto_region 9 with (first|(go_at_call 75;refine (zlu _ _ _ _ _ _ _ _ _ _ _ _).mono ?_;rintro e u6 ⟨rfl,b6⟩;rw [HD'.out];have HEZ:Hid (EOwn u6 v2.heap.size u1.heap.size (.slice bT T.length dT) (.slice bO O.length dO) (.slice bP P.length dP) (.slice (some ⟨gl,0,none⟩) L.length dL) uL (.slice (some ⟨gk,0,none⟩) K.length dK) uK T O P L K):=HE.out.next (zaa bx b6);clear k0 k1 k2 k3 k4 k5 k6 k7 k8 k9 k10 k11 k12;obtain ⟨k0,k1,k2,k3,k4,k5,k6,k7,k8,k9,k10,k11,k12⟩:=(HEZ.out).con hi;obtain ⟨f3,f4,f5,f6,f7,f8,f9,f10,f11,f12,f13⟩:=HEZ.out.frz hi))
 clear j0 j1 j2 j3 j4 j5 j6
 obtain ⟨y,hyy⟩:∃z,z=u6.setCells gk (i*14+3) (K[i].cc d).ccs:=⟨_,rfl⟩
 have hy':((((((((((u6.setCell ⟨gk,i*14+3,none⟩ (.int .i64 d.k)).setCell ⟨gk,i*14+4,none⟩ (.int .i64 d.wn)).setCell ⟨gk,i*14+5,none⟩ (.int .i64 d.th)).setCell ⟨gk,i*14+6,none⟩ (.int .i64 d.fl)).setCell ⟨gk,i*14+7,none⟩ (.int .i64 d.ac)).setCell ⟨gk,i*14+8,none⟩ (.int .i64 d.la)).setCell ⟨gk,i*14+9,none⟩ (.int .i64 d.og)).setCell ⟨gk,i*14+10,none⟩ (.int .i64 d.st)).setCell ⟨gk,i*14+11,none⟩ (.int .i64 d.fr)).setCell ⟨gk,i*14+12,none⟩ (.bool d.sl))=y:=hyy.symm
 rw [hy']
 clear hy'
 have oy:Only gk u6 y:=by rw [hyy];exact zba _ _ _
 have ey0:=HEZ.out.setCc hi (K[i].cc d) rfl rfl rfl rfl
 rw [←hyy] at ey0
 have EY:Hid (EOwn y v2.heap.size u1.heap.size (.slice bT T.length dT) (.slice bO O.length dO) (.slice bP P.length dP) (.slice (some ⟨gl,0,none⟩) L.length dL) uL (.slice (some ⟨gk,0,none⟩) (K.set i (K[i].cc d)).length dK) uK T O P L (K.set i (K[i].cc d))):=ey0
 have k2y:y.cell? ⟨gk,i*14+2,none⟩=some (.int .i64 (p:Int)):=by
  rw [hyy]
  refine (World.cell?_setCells_out gk _ _ u6 ⟨gk,i*14+2,none⟩ (fun _ _=>.inl (by show i*14+2<i*14+3;omega))).trans ?_
  rw [←HPL.out]
  exact k2
 clear hyy ey0 k0 k1 k2 k3 k4 k5 k6 k7 k8 k9 k10 k11 k12 f3 f4 f5 f6 f7 f8 f9 f10 f11 f12 f13
 have zoy:=oy.size
 have z6:=b6.size
 have LY:=(LX.next b6).only oy (by omega)
 have XY:=(X1.next b6).only oy (by omega)
 have bwy:Below w.heap.size w y:=(bwx.trans (b6.mono (by omega))).trans (oy.below (by omega) (by omega))
 obtain ⟨q0,q1,qf,sa,sc,q2,qu,qsm⟩:=EY.out.plc hp
 have HSM:Hid (ISmp y.heap.size y sa L[p].2.2):=qsm
 have HS:Hid (∀u,Below y.heap.size y u→u.cell? ⟨u1.heap.size,4,none⟩=some (.slice (some ⟨gl,0,none⟩) L.length dL)∧u.cell? ⟨gk,i*14+2,none⟩=some (.int .i64 (p:Int))∧u.cell? ⟨gl,p*3,none⟩=some (.int .i64 L[p].1)∧u.cell? ⟨gl,p*3+1,none⟩=some (.int .i64 L[p].2.1)∧u.cell? ⟨gl,p*3+2,none⟩=some (.slice sa L[p].2.2.length sc)):=fun u hu=>⟨(LY.next hu).cell 4 _ rfl,(hu.cell (by show gk<_;omega)).trans k2y,(hu.cell (by show gl<_;omega)).trans q0,(hu.cell (by show gl<_;omega)).trans q1,(hu.cell (by show gl<_;omega)).trans q2⟩
 clear q0 q1 q2 qf qu qsm k2y
 refine zgu 17 HS (Below.refl _ _).drew fun hS=>?_
 refine zae 0 rfl ?_
 refine zae 1 rfl ?_
 refine zae 2 rfl ?_
 refine zae 3 rfl ?_
 refine zae 4 rfl ?_
 refine zae 5 rfl ?_
 refine zae 6 rfl ?_
 refine zae 7 rfl ?_
 refine zae 8 rfl ?_
 refine zae 9 rfl ?_
 refine zae 10 rfl ?_
 refine zae 11 rfl ?_
 refine zae 12 rfl ?_
 refine zae 13 rfl ?_
 refine zae 14 rfl ?_
 refine zai (i:=15) (by kernel_rfl) rfl (fun Kr hKr=>?_)
 go_simp
 (refine (zfd sc HPB.out HNB.out (HSM.out.here (Below.refl _ _).drew)).mono ?_;rintro e u5 ⟨va,nv,cv,rfl,iv5,hb5⟩;have nz:=zgm iv5;subst nz;have iv5:IV u5 y.heap.size (.slice va L[p].2.2.length cv) L[p].2.2:=iv5;have hb5:=zbh hb5;have hS5:=HS.out _ hb5;have HE5:Hid (EOwn u5 v2.heap.size u1.heap.size (.slice bT T.length dT) (.slice bO O.length dO) (.slice bP P.length dP) (.slice (some ⟨gl,0,none⟩) L.length dL) uL (.slice (some ⟨gk,0,none⟩) (K.set i (K[i].cc d)).length dK) uK T O P L (K.set i (K[i].cc d))):=EY.out.next hb5;obtain ⟨p0,p1,⟨pf0,pf1,pf2⟩,sb,sd,p2,pu,psm⟩:=HE5.out.plc hp)
 refine hKr.out _ _ ‹_› fun _=>?_
 try simp only [nrm]
 refine zai (i:=16) (by kernel_rfl) rfl (fun Kr hKr=>?_)
 go_simp
 refine hKr.out _ _ ‹_› fun _=>?_
 try simp only [nrm]
 refine za4 (by kernel_rfl) rfl (by kernel_rfl) (fun Kr hKr=>?_)
 go_simp
 refine hKr.out _ _ ?_
 try simp only [nrm]
 obtain ⟨z,hzz⟩:∃z,z=u5.setCells gl (p*3) [.int .i64 (zdj L[p].1 n false),.int .i64 (max 0 (L[p].2.1-n)),.slice va L[p].2.2.length cv]:=⟨_,rfl⟩
 have hz':((u5.setCell ⟨gl,p*3,none⟩ (.int .i64 (zdj L[p].1 n false))).setCell ⟨gl,p*3+1,none⟩ (.int .i64 (max 0 (L[p].2.1-n)))).setCell ⟨gl,p*3+2,none⟩ (.slice va L[p].2.2.length cv)=z:=hzz.symm
 rw [hz']
 clear hz' p0 p1 pf0 pf1 pf2 p2 pu psm
 have z5:=hb5.size
 have ez:=HE5.out.setP (hi':=u5.heap.size) (q:=zdj L[p].1 n false) (d:=max 0 (L[p].2.1-n)) hp (iv5.io.wider (by omega) (Nat.le_refl _)) (fun b hb=>.inr (fun hn=>by have:=(iv5.io.el hb).1;have:=HE5.out.bd hn;omega)) (by omega) (Nat.le_refl _)
 rw [←hzz] at ez
 have oz:Only gl u5 z:=by rw [hzz];exact zba _ _ _
 clear hzz
 have LZ:=(LY.next hb5).only oz (by omega)
 have XZ:=(XY.next hb5).only oz (by omega)
 have zoz:=oz.size
 obtain ⟨j0,j1,j2,j3,j4,j5,j6⟩:=LZ.c7
 obtain ⟨r0,r1,r2,r3,r4,r5,r6⟩:=XZ.c7
 have rf:=XZ.free
 go_wp2
 obtain ⟨u,hu',ou,U⟩:=st7 (b:=w.heap.size+1) XZ (.int .i64 now) (.slice bT T.length dT) (.slice bO O.length dO) (.slice bP P.length dP) (.slice (some ⟨gl,0,none⟩) L.length dL) (.slice (some ⟨gk,0,none⟩) K.length dK) (.int .i64 nx)
 rw [hu']
 clear hu'
 have bwz:Below w.heap.size w z:=(bwy.trans (hb5.mono (by omega))).trans (oz.below (by omega) (by omega))
 have hnn:¬inE (.slice bT T.length dT) (.slice bO O.length dO) (.slice bP P.length dP) (.slice (some ⟨gl,0,none⟩) (L.set p (zdj L[p].1 n false,max 0 (L[p].2.1-n),L[p].2.2)).length dL) (uL.set p (.slice va L[p].2.2.length cv)) (.slice (some ⟨gk,0,none⟩) (K.set i (K[i].cc d)).length dK) uK (w.heap.size+1):=fun hb=>by have:=ez.bd hb;omega
 have eu:=ez.only ou hnn
 have zu:=ou.size
 refine bodyPost_ret (zak rfl _ _ _ _ rfl U.cell Tryz.underlying31 rfl (by kernel_rfl)) rfl ?_
 exact ⟨bT,dT,bO,dO,bP,dP,some ⟨gl,0,none⟩,dL,some ⟨gk,0,none⟩,dK,by rw [List.length_set,List.length_set];rfl,eu.eng.wider (by omega) (by omega),bwz.trans (ou.below (by omega) bwz.size)⟩
theorem zoa {w:World} (now nx:Int) {aT aO aP aL aK:Option Addr} (cT cO cP cL cK:Nat) {T O P:List Q4} {L:List F8} {K:List Kn} (id n:Int) (hT:Quad w.heap.size w aT T) (hO:Quad w.heap.size w aO O) (hP:Quad w.heap.size w aP P) (hL:Fls w.heap.size w aL L) (hK:Kls w.heap.size w aK K) (mT:T.length≤1048576) (mL:L.length≤1048576) (sL:∀f ∈ L,f.2.2.length≤1048576) (mK:K.length≤1048576) (sK:∀c ∈ K,c.xs.length≤1048576) (h1:zcy now nx T O P L K=true) (i:Nat) (hi:i<K.length) (hf:fK K id=(i:Int)) (hg:inQ 1 n K[i].fl=true) (p:Nat) (hpl:K[i].pl=(p:Int)) (hp:p<L.length) (hk:K[i].k=2):Calls Tryz.prog 24 #[zcp now aT T.length cT aO O.length cO aP P.length cP aL L.length cL aK K.length cK nx,.int .i64 id,.int .i64 n] w (zbx w now nx T O P (L.set p (z1w L p n false)) (K.set i (K[i].cc (zhk K[i] n now false))) (.int .i64 0)):=by
 have sKm:=zjj sK
 have mKm:=zng mK
 obtain ⟨nT,nO,nP⟩:=zcb (zbc h1)
 have l0:=(zbc h1).l0
 have hi0:¬((i:Int)<0):=by omega
 have hi':(i:Int)<(K.length:Int):=by omega
 obtain ⟨hn9,hnn1,hff⟩:=zxh (zbc h1) hi hg
 have hpb:=((zbc h1).pl p hp).1
 obtain ⟨d,hd⟩:∃d,zhk K[i] n now false=d:=⟨_,rfl⟩
 have HD:Hid (zhk K[i] n now false=d):=hd
 rw [zh3 hp n false,hd]
 have HPB:Hid (plB L[p].1 L[p].2.1 L[p].2.2=true):=hpb
 have HNB:Hid (inQ 1 n 1000000000=true):=hn9
 have HPL:Hid (K[i].pl=(p:Int)):=hpl
 have hp':(p:Int)<(L.length:Int):=by omega
 have hp0:(0:Int)≤(p:Int):=by omega
 clear hpb hn9 hd hpl
 have HD':Hid (zl4 2 K[i].wn K[i].th K[i].fl K[i].ac K[i].la K[i].og K[i].st K[i].fr K[i].sl n now=d):=by
  have q:=HD.out
  unfold zhk ackD at q
  rw [if_neg (by decide),hk,if_pos rfl] at q
  exact q
 have HK:Hid (K[i].k=2):=hk
 clear hk
 obtain ⟨v,hv,nb,L0,L1⟩:=ziw w 31 [.int .i64 now,.slice aT T.length cT,.slice aO O.length cO,.slice aP P.length cP,.slice aL L.length cL,.slice aK K.length cK,.int .i64 nx]
 have hw1:=L1.lt
 go_enter Tryz.func24,Tryz.ntmps24
 go_upto_region 1 with (fail)
 rw [←hv]
 clear hv
 obtain ⟨q0,q1,q2,q3,q4,q5,q6⟩:=Lay.c7 (b:=w.heap.size) L0
 go_upto_region 5 with (first|(go_at_call 74;refine (zis now nx cT cO cP cL cK id n (hT.here nb) (hO.here nb) (hP.here nb) (hL.here nb) (hK.here nb) mT mL sL mK sK h1 i hi hf hg).mono ?_;rintro e v2 ⟨rfl,hb2⟩;have b2:=zaa nb hb2;have M0:=L0.next hb2;have M1:=L1.next hb2;clear q0 q1 q2 q3 q4 q5 q6;obtain ⟨q0,q1,q2,q3,q4,q5,q6⟩:=M0.c7)|(go_at_call 52;refine (zct now nx cT cO cP cL cK (hT.here b2) (hO.here b2) (hP.here b2) (hL.here b2) (hK.here b2) nT nO nP mL sL mK sK).mono ?_;rintro e u1 ⟨bT,dT,bO,dO,bP,dP,bL,dL,bK,dK,GK,lh,ph,rfl,lv,lb,tv,ck,hz,hb1⟩))
 obtain ⟨uL,uK,eo⟩:=zqd lv lb tv ck hz
 obtain ⟨gl,hgl,hgl0,hgl1,hgl2⟩:=eo.atL (by omega)
 obtain ⟨gk,hgk,hgk0,hgk1,hgk2⟩:=eo.atK (by omega)
 subst hgl hgk
 have HE:Hid (EOwn u1 v2.heap.size u1.heap.size (.slice bT T.length dT) (.slice bO O.length dO) (.slice bP P.length dP) (.slice (some ⟨gl,0,none⟩) L.length dL) uL (.slice (some ⟨gk,0,none⟩) K.length dK) uK T O P L K):=eo
 clear eo lv lb tv ck
 obtain ⟨x,hx,LX,bx⟩:=ze8 u1 31 [.int .i64 now,.slice bT T.length dT,.slice bO O.length dO,.slice bP P.length dP,.slice (some ⟨gl,0,none⟩) L.length dL,.slice (some ⟨gk,0,none⟩) K.length dK,.int .i64 nx]
 rw [←hx]
 clear hx q0 q1 q2 q3 q4 q5 q6
 have X1:=(M1.next hb1).next bx
 have X0:=(M0.next hb1).next bx
 have z1:=hb1.size
 have zx:=bx.size
 have zb:=b2.size
 have z2:=hb2.size
 have hlx:=LX.lt
 have hn1:=M1.lt
 have bwx:Below w.heap.size w x:=zaa (zaa b2 hb1) bx
 obtain ⟨j0,j1,j2,j3,j4,j5,j6⟩:=LX.c7
 obtain ⟨k0,k1,k2,k3,k4,k5,k6,k7,k8,k9,k10,k11,k12⟩:=(HE.out.next bx).con hi
 rw [HK.out] at k3
 go_upto_region 8 with (fail)
 clear j0 j1 j2 j3 j4 j5 j6 k0 k1 k2 k3 k4 k5 k6 k7 k8 k9 k10 k11 k12
 have HS8:Hid (∀u,Below x.heap.size x u→u.cell? ⟨gk,i*14+3,none⟩=some (.int .i64 2)∧u.cell? ⟨gk,i*14+4,none⟩=some (.int .i64 K[i].wn)∧u.cell? ⟨gk,i*14+5,none⟩=some (.int .i64 K[i].th)∧u.cell? ⟨gk,i*14+6,none⟩=some (.int .i64 K[i].fl)∧u.cell? ⟨gk,i*14+7,none⟩=some (.int .i64 K[i].ac)∧u.cell? ⟨gk,i*14+8,none⟩=some (.int .i64 K[i].la)∧u.cell? ⟨gk,i*14+9,none⟩=some (.int .i64 K[i].og)∧u.cell? ⟨gk,i*14+10,none⟩=some (.int .i64 K[i].st)∧u.cell? ⟨gk,i*14+11,none⟩=some (.int .i64 K[i].fr)∧u.cell? ⟨gk,i*14+12,none⟩=some (.bool K[i].sl)∧u.cell? ⟨w.heap.size,0,none⟩=some (.int .i64 now)):=fun u hu=>by
  obtain ⟨k0,k1,k2,k3,k4,k5,k6,k7,k8,k9,k10,k11,k12⟩:=(HE.out.next (zaa bx hu)).con hi
  rw [HK.out] at k3
  exact ⟨k3,k4,k5,k6,k7,k8,k9,k10,k11,k12,(X0.next hu).cell 0 _ rfl⟩
 refine zgu 11 HS8 (Below.refl _ _).drew fun hS=>?_
 refine zae 0 rfl ?_
 refine zae 1 rfl ?_
 refine zae 2 rfl ?_
 refine zae 3 rfl ?_
 refine zae 4 rfl ?_
 refine zae 5 rfl ?_
 refine zae 6 rfl ?_
 refine zae 7 rfl ?_
 refine zai (i:=8) (by kernel_rfl) rfl (fun Kr hKr=>?_)
 go_simp
 (refine (zki _ _ _ _ _ _ _ _ _ _ _ _ _).mono ?_;rintro e u6 ⟨rfl,b6⟩;rw [HD'.out];have b6:=zbh b6;have hS6:=HS8.out _ b6;have HEZ:Hid (EOwn u6 v2.heap.size u1.heap.size (.slice bT T.length dT) (.slice bO O.length dO) (.slice bP P.length dP) (.slice (some ⟨gl,0,none⟩) L.length dL) uL (.slice (some ⟨gk,0,none⟩) K.length dK) uK T O P L K):=HE.out.next (zaa bx b6);obtain ⟨k0,k1,k2,k3,k4,k5,k6,k7,k8,k9,k10,k11,k12⟩:=(HEZ.out).con hi;obtain ⟨f3,f4,f5,f6,f7,f8,f9,f10,f11,f12,f13⟩:=HEZ.out.frz hi)
 refine hKr.out _ _ ‹_› fun _=>?_
 try simp only [nrm]
 refine zai (i:=9) (by kernel_rfl) rfl (fun Kr hKr=>?_)
 go_simp
 refine hKr.out _ _ ‹_› fun _=>?_
 try simp only [nrm]
 refine zai (i:=10) (by kernel_rfl) rfl (fun Kr hKr=>?_)
 go_simp
 refine hKr.out _ _ ‹_› fun _=>?_
 try simp only [nrm]
 refine za4 (by kernel_rfl) rfl (by kernel_rfl) (fun Kr hKr=>?_)
 go_simp
 refine hKr.out _ _ ?_
 try simp only [nrm]
 obtain ⟨y,hyy⟩:∃z,z=u6.setCells gk (i*14+3) (K[i].cc d).ccs:=⟨_,rfl⟩
 have hy':((((((((((u6.setCell ⟨gk,i*14+3,none⟩ (.int .i64 d.k)).setCell ⟨gk,i*14+4,none⟩ (.int .i64 d.wn)).setCell ⟨gk,i*14+5,none⟩ (.int .i64 d.th)).setCell ⟨gk,i*14+6,none⟩ (.int .i64 d.fl)).setCell ⟨gk,i*14+7,none⟩ (.int .i64 d.ac)).setCell ⟨gk,i*14+8,none⟩ (.int .i64 d.la)).setCell ⟨gk,i*14+9,none⟩ (.int .i64 d.og)).setCell ⟨gk,i*14+10,none⟩ (.int .i64 d.st)).setCell ⟨gk,i*14+11,none⟩ (.int .i64 d.fr)).setCell ⟨gk,i*14+12,none⟩ (.bool d.sl))=y:=hyy.symm
 rw [hy']
 clear hy'
 have oy:Only gk u6 y:=by rw [hyy];exact zba _ _ _
 have ey0:=HEZ.out.setCc hi (K[i].cc d) rfl rfl rfl rfl
 rw [←hyy] at ey0
 have EY:Hid (EOwn y v2.heap.size u1.heap.size (.slice bT T.length dT) (.slice bO O.length dO) (.slice bP P.length dP) (.slice (some ⟨gl,0,none⟩) L.length dL) uL (.slice (some ⟨gk,0,none⟩) (K.set i (K[i].cc d)).length dK) uK T O P L (K.set i (K[i].cc d))):=ey0
 have k2y:y.cell? ⟨gk,i*14+2,none⟩=some (.int .i64 (p:Int)):=by
  rw [hyy]
  refine (World.cell?_setCells_out gk _ _ u6 ⟨gk,i*14+2,none⟩ (fun _ _=>.inl (by show i*14+2<i*14+3;omega))).trans ?_
  rw [←HPL.out]
  exact k2
 clear hyy ey0 k0 k1 k2 k3 k4 k5 k6 k7 k8 k9 k10 k11 k12 f3 f4 f5 f6 f7 f8 f9 f10 f11 f12 f13
 have zoy:=oy.size
 have z6:=b6.size
 have LY:=(LX.next b6).only oy (by omega)
 have XY:=(X1.next b6).only oy (by omega)
 have bwy:Below w.heap.size w y:=(bwx.trans (b6.mono (by omega))).trans (oy.below (by omega) (by omega))
 go_upto_region 9 with (fail)
 obtain ⟨q0,q1,qf,sa,sc,q2,qu,qsm⟩:=EY.out.plc hp
 have HSM:Hid (ISmp y.heap.size y sa L[p].2.2):=qsm
 have HS:Hid (∀u,Below y.heap.size y u→u.cell? ⟨u1.heap.size,4,none⟩=some (.slice (some ⟨gl,0,none⟩) L.length dL)∧u.cell? ⟨gk,i*14+2,none⟩=some (.int .i64 (p:Int))∧u.cell? ⟨gl,p*3,none⟩=some (.int .i64 L[p].1)∧u.cell? ⟨gl,p*3+1,none⟩=some (.int .i64 L[p].2.1)∧u.cell? ⟨gl,p*3+2,none⟩=some (.slice sa L[p].2.2.length sc)):=fun u hu=>⟨(LY.next hu).cell 4 _ rfl,(hu.cell (by show gk<_;omega)).trans k2y,(hu.cell (by show gl<_;omega)).trans q0,(hu.cell (by show gl<_;omega)).trans q1,(hu.cell (by show gl<_;omega)).trans q2⟩
 clear q0 q1 q2 qf qu qsm k2y
 refine zgu 17 HS (Below.refl _ _).drew fun hS=>?_
 refine zae 0 rfl ?_
 refine zae 1 rfl ?_
 refine zae 2 rfl ?_
 refine zae 3 rfl ?_
 refine zae 4 rfl ?_
 refine zae 5 rfl ?_
 refine zae 6 rfl ?_
 refine zae 7 rfl ?_
 refine zae 8 rfl ?_
 refine zae 9 rfl ?_
 refine zae 10 rfl ?_
 refine zae 11 rfl ?_
 refine zae 12 rfl ?_
 refine zae 13 rfl ?_
 refine zae 14 rfl ?_
 refine zai (i:=15) (by kernel_rfl) rfl (fun Kr hKr=>?_)
 go_simp
 (refine (zfd sc HPB.out HNB.out (HSM.out.here (Below.refl _ _).drew)).mono ?_;rintro e u5 ⟨va,nv,cv,rfl,iv5,hb5⟩;have nz:=zgm iv5;subst nz;have iv5:IV u5 y.heap.size (.slice va L[p].2.2.length cv) L[p].2.2:=iv5;have hb5:=zbh hb5;have hS5:=HS.out _ hb5;have HE5:Hid (EOwn u5 v2.heap.size u1.heap.size (.slice bT T.length dT) (.slice bO O.length dO) (.slice bP P.length dP) (.slice (some ⟨gl,0,none⟩) L.length dL) uL (.slice (some ⟨gk,0,none⟩) (K.set i (K[i].cc d)).length dK) uK T O P L (K.set i (K[i].cc d))):=EY.out.next hb5;obtain ⟨p0,p1,⟨pf0,pf1,pf2⟩,sb,sd,p2,pu,psm⟩:=HE5.out.plc hp)
 refine hKr.out _ _ ‹_› fun _=>?_
 try simp only [nrm]
 refine zai (i:=16) (by kernel_rfl) rfl (fun Kr hKr=>?_)
 go_simp
 refine hKr.out _ _ ‹_› fun _=>?_
 try simp only [nrm]
 refine za4 (by kernel_rfl) rfl (by kernel_rfl) (fun Kr hKr=>?_)
 go_simp
 refine hKr.out _ _ ?_
 try simp only [nrm]
 obtain ⟨z,hzz⟩:∃z,z=u5.setCells gl (p*3) [.int .i64 (zdj L[p].1 n false),.int .i64 (max 0 (L[p].2.1-n)),.slice va L[p].2.2.length cv]:=⟨_,rfl⟩
 have hz':((u5.setCell ⟨gl,p*3,none⟩ (.int .i64 (zdj L[p].1 n false))).setCell ⟨gl,p*3+1,none⟩ (.int .i64 (max 0 (L[p].2.1-n)))).setCell ⟨gl,p*3+2,none⟩ (.slice va L[p].2.2.length cv)=z:=hzz.symm
 rw [hz']
 clear hz' p0 p1 pf0 pf1 pf2 p2 pu psm
 have z5:=hb5.size
 have ez:=HE5.out.setP (hi':=u5.heap.size) (q:=zdj L[p].1 n false) (d:=max 0 (L[p].2.1-n)) hp (iv5.io.wider (by omega) (Nat.le_refl _)) (fun b hb=>.inr (fun hn=>by have:=(iv5.io.el hb).1;have:=HE5.out.bd hn;omega)) (by omega) (Nat.le_refl _)
 rw [←hzz] at ez
 have oz:Only gl u5 z:=by rw [hzz];exact zba _ _ _
 clear hzz
 have LZ:=(LY.next hb5).only oz (by omega)
 have XZ:=(XY.next hb5).only oz (by omega)
 have zoz:=oz.size
 obtain ⟨j0,j1,j2,j3,j4,j5,j6⟩:=LZ.c7
 obtain ⟨r0,r1,r2,r3,r4,r5,r6⟩:=XZ.c7
 have rf:=XZ.free
 go_wp2
 obtain ⟨u,hu',ou,U⟩:=st7 (b:=w.heap.size+1) XZ (.int .i64 now) (.slice bT T.length dT) (.slice bO O.length dO) (.slice bP P.length dP) (.slice (some ⟨gl,0,none⟩) L.length dL) (.slice (some ⟨gk,0,none⟩) K.length dK) (.int .i64 nx)
 rw [hu']
 clear hu'
 have bwz:Below w.heap.size w z:=(bwy.trans (hb5.mono (by omega))).trans (oz.below (by omega) (by omega))
 have hnn:¬inE (.slice bT T.length dT) (.slice bO O.length dO) (.slice bP P.length dP) (.slice (some ⟨gl,0,none⟩) (L.set p (zdj L[p].1 n false,max 0 (L[p].2.1-n),L[p].2.2)).length dL) (uL.set p (.slice va L[p].2.2.length cv)) (.slice (some ⟨gk,0,none⟩) (K.set i (K[i].cc d)).length dK) uK (w.heap.size+1):=fun hb=>by have:=ez.bd hb;omega
 have eu:=ez.only ou hnn
 have zu:=ou.size
 refine bodyPost_ret (zak rfl _ _ _ _ rfl U.cell Tryz.underlying31 rfl (by kernel_rfl)) rfl ?_
 exact ⟨bT,dT,bO,dO,bP,dP,some ⟨gl,0,none⟩,dL,some ⟨gk,0,none⟩,dK,by rw [List.length_set,List.length_set];rfl,eu.eng.wider (by omega) (by omega),bwz.trans (ou.below (by omega) bwz.size)⟩
end Go.Proofs.YthiojkjcmhojoaaGreat
