import Derived.Test.YthiojkjcmhojoaaGreatGfBG
import Derived.Lib.Overlaps
import Derived.Lib.AppendZerosOnto
namespace Go.Proofs.YthiojkjcmhojoaaGreat
set_option maxHeartbeats 8000000
open Go.ChangeShapes Go.WideShapes Go.ChangeAt Go.RowKit
set_option maxRecDepth 100000
set_option linter.unusedVariables false
set_option linter.unusedSimpArgs false
theorem z17 (c:Kn):∀u ∈ zgt (c,.slice none 0 0),u.oneCell'=true:=by
 intro u hu
 simp only [zgt,Kn.cs,List.mem_append,List.mem_cons,List.not_mem_nil,or_false] at hu
 rcases hu with (rfl|rfl|rfl|rfl|rfl|rfl|rfl|rfl|rfl|rfl|rfl|rfl|rfl)|rfl <;> rfl
def SrcK (w:World) (av:Option Addr) (m c:Nat) (news:List Value):Prop:=(∃ad,av=some ad∧ad.block<w.heap.size∧∀j u,news[j]?=some u→w.cell? (ad.add j)=some u)∨(av=none∧m=0∧c=0∧news=[])
theorem SrcK.next {w w':World} {av:Option Addr} {m c:Nat} {news:List Value} (h:SrcK w av m c news) (hb:Below w.heap.size w w'):SrcK w' av m c news:=by
 rcases h with ⟨ad,e,hl,h⟩|h
 ·refine .inl ⟨ad,e,Nat.lt_of_lt_of_le hl hb.size,fun j u hu=>(hb.cell (p:=ad.add j) ?_).trans (h j u hu)⟩
  have:(ad.add j).block=ad.block:=by unfold Addr.add;split <;> rfl
  rw [this]
  exact hl
 ·exact .inr h
theorem zmn {P:Program} (w:World) {o:Oper} {a:Act} {K:Act→World→Prop} {Q:Exit→Act→World→Prop} (s x:Operand) (t:TypeId)
 (ho:o.op=.call { callee:=.builtin .append,args:=#[s,x],argTypes:=#[t,t] })
 (base:Nat) (e:TypeId) (i:TypeInfo) (z:Value) (size bytes:Nat) (ht:P.underlying t=some (.slice e)) (hi:P.info? e=some i) (hz:i.zero=some z)
 (hsize:i.size=size) (hby:i.bytes=bytes) (hzs:z.cells.size=size) (hsz:0<size)
 (v:Value) (n:Nat) (xs:List Value) (hs:a.eval s=v) (hown:w.ownsRow base e size v n xs)
 (av:Option Addr) (m c:Nat) (news:List Value) (hx:a.eval x=.slice av m c) (hsrc:SrcK w av m c news) (hl:news.length=m*size) (h1:∀u ∈ news,u.oneCell'=true)
 (h63:n+m≤maxLen) (hbytes:(n+m)*bytes≤140737488355328) (hbase:base≤w.heap.size)
 (h:∀v' w',w'.ownsRow base e size v' (n+m) (xs ++ news)→w.grownBy w' v.ownBlock→K (a.put o.dst v') w'):o.wp P a w K Q:=by
 rcases hsrc with ⟨ad,rfl,_,hn⟩|⟨rfl,rfl,rfl,rfl⟩
 ·exact wp_append_own w s x t ho base e i z size bytes ht hi hz hsize hby hzs hsz v n xs hs hown ad m c news hx hl hn h1 h63 hbytes hbase (fun v' w' a b _=>h v' w' a b)
 ·have hrun:=run_append_owned_none (P:=P) (w:=w) base t o.type e i size ht hi v n xs hown
  unfold Oper.wp
  simp [execOp,ho,resolve,invoke,builtin,hs,hx,hrun,Result.andThen]
  exact h v w (by rw [Nat.add_zero,List.append_nil];exact hown) ⟨rfl,rfl,rfl,Nat.le_refl _,fun _ _ _=>rfl⟩
theorem z18 {w:World} {lo:Nat} {v:Value} {G:List G14} {K:List Kn} (ck:CpK w lo v G K) {j:Nat} (hj:j<G.length):∀u ∈ zgt G[j],u.oneCell'=true:=fun u hu=>ztw ck u (List.mem_flatMap.2 ⟨G[j],List.getElem_mem hj,hu⟩)
theorem zzk {w:World} {lo cap i:Nat} {a:Option Addr} {G:List G14} {K:List Kn} (ck:CpK w lo (.slice a K.length cap) G K) (hi:i≤K.length):SrcK w (if cap=i then a else a.map (·.add (i*14))) (K.length-i) (cap-i) (zbl (G.drop i)):=by
 have hl:=ck.len
 rcases ck.row.2 with ⟨e,e2⟩|⟨g,cap',cur,e,_,_,hnc,_⟩
 ·injection e with e1 _ e3
  subst e1 e3
  refine .inr ⟨by split <;> rfl,by omega,by omega,?_⟩
  have:G=[]:=List.eq_nil_of_length_eq_zero (by omega)
  rw [this,List.drop_nil]
  rfl
 ·injection e with e1 _ e3
  subst e1 e3
  obtain ⟨ad,had,h⟩:=z1z ck hi hnc
  refine .inl ⟨ad,had,?_,h⟩
  have hg:=(ck.row.lt g rfl).2
  by_cases e:cap=i
  ·rw [if_pos e] at had
   rw [←Option.some.inj had]
   exact hg
  ·rw [if_neg e] at had
   rw [←Option.some.inj had]
   show ((⟨g,0,none⟩:Addr).add (i*14)).block<_
   rw [zff]
   exact hg
theorem zsh {w:World} (now nx:Int) {aT aO aP aL aK:Option Addr} (cT cO cP cL cK:Nat) {T O P:List Q4} {L:List F8} {K:List Kn} (id lf pl kd:Int) (hT:Quad w.heap.size w aT T) (hO:Quad w.heap.size w aO O) (hP:Quad w.heap.size w aP P) (hL:Fls w.heap.size w aL L) (hK:Kls w.heap.size w aK K) (mT:T.length≤1048576) (mL:L.length≤1048576) (sL:∀f ∈ L,f.2.2.length≤1048576) (mK:K.length≤1048576) (sK:∀c ∈ K,c.xs.length≤1048576) (h1:zcy now nx T O P L K=true) (hn:inQ 0 id 1000000=true) (i:Nat) (hi:i<K.length) (hf:fK K id=(i:Int)):Calls Tryz.prog 11 #[zcp now aT T.length cT aO O.length cO aP P.length cP aL L.length cL aK K.length cK nx,.int .i64 id,.int .i64 lf,.int .i64 pl,.int .i64 kd] w (zbx w now nx T O P L K (.int .i64 2)):=by
 have sKm:=zjj sK
 have mKm:=zng mK
 obtain ⟨nT,nO,nP⟩:=zcb (zbc h1)
 have hi0:¬((i:Int)<0):=by omega
 have hi':(i:Int)<(K.length:Int):=by omega
 obtain ⟨v,hv,nb,L0,L1⟩:=ziw w 31 [.int .i64 now,.slice aT T.length cT,.slice aO O.length cO,.slice aP P.length cP,.slice aL L.length cL,.slice aK K.length cK,.int .i64 nx]
 have hw1:=L1.lt
 go_enter Tryz.func11,Tryz.ntmps11
 go_upto_region 1 with (fail)
 rw [←hv]
 clear hv
 obtain ⟨q0,q1,q2,q3,q4,q5,q6⟩:=Lay.c7 (b:=w.heap.size) L0
 go_wp2_with (first|(go_at_call 40;refine (za1 cT cO cP cL cK h1 (hT.here nb) (hO.here nb) (hP.here nb) (hL.here nb) (hK.here nb) mT mL mK sKm).mono ?_;rintro e v2 ⟨rfl,hb2⟩;have b2:=zaa nb hb2;have M0:=L0.next hb2;have M1:=L1.next hb2;clear q0 q1 q2 q3 q4 q5 q6;obtain ⟨q0,q1,q2,q3,q4,q5,q6⟩:=Lay.c7 (b:=w.heap.size) M0;skip)|(go_at_call 48;refine (zbr hn _).mono ?_;rintro e w3 ⟨rfl,e3⟩;replace e3:=e3.symm;subst e3;have g1:=True.intro)|(go_at_call 49;refine (zcd now nx id (hK.here b2) mKm).mono ?_;rintro e v3 ⟨rfl,hb3⟩;rw [hf];have b3:=zaa b2 hb3;have N0:=M0.next hb3;have N1:=M1.next hb3;clear q0 q1 q2 q3 q4 q5 q6;obtain ⟨q0,q1,q2,q3,q4,q5,q6⟩:=Lay.c7 (b:=w.heap.size) N0;skip)|(go_at_call 47;refine (zco now nx cT cO cP cL cK (hT.here b3) (hO.here b3) (hP.here b3) (hL.here b3) (hK.here b3) nT nO nP mL sL mK sK 2 (by decide)).mono ?_;rintro e u1 ⟨bT,dT,bO,dO,bP,dP,bL,dL,bK,dK,rfl,eg,hb1⟩;have HEG:Hid (Eng u1 v3.heap.size u1.heap.size (.slice bT T.length dT) (.slice bO O.length dO) (.slice bP P.length dP) (.slice bL L.length dL) (.slice bK K.length dK) T O P L K):=eg;have LU:=N1.next hb1;obtain ⟨z0,z1,z2,z3,z4,z5,z6⟩:=Lay.c7 (b:=w.heap.size+1) LU;have fz:=LU.free))
 obtain ⟨u,hu',ou,U⟩:=st7 (b:=w.heap.size+1) LU (.int .i64 now) (.slice bT T.length dT) (.slice bO O.length dO) (.slice bP P.length dP) (.slice bL L.length dL) (.slice bK K.length dK) (.int .i64 nx)
 rw [hu']
 clear hu'
 have zu:=ou.size
 have bw:=zaa b3 hb1
 have zb:=b2.size
 have z2:=hb2.size
 have zbb:=b3.size
 have z3:=hb3.size
 refine bodyPost_ret (zak rfl _ _ _ _ rfl U.cell Tryz.underlying31 rfl (by kernel_rfl)) rfl ?_
 exact ⟨bT,dT,bO,dO,bP,dP,bL,dL,bK,dK,rfl,zvf HEG.out ou (by omega) (by omega) ou.size,bw.trans (ou.below (by omega) bw.size)⟩
theorem zqp {w:World} (now nx:Int) {aT aO aP aL aK:Option Addr} (cT cO cP cL cK:Nat) {T O P:List Q4} {L:List F8} {K:List Kn} (id lf pl kd:Int) (hT:Quad w.heap.size w aT T) (hO:Quad w.heap.size w aO O) (hP:Quad w.heap.size w aP P) (hL:Fls w.heap.size w aL L) (hK:Kls w.heap.size w aK K) (mT:T.length≤1048576) (mL:L.length≤1048576) (sL:∀f ∈ L,f.2.2.length≤1048576) (mK:K.length≤1048576) (sK:∀c ∈ K,c.xs.length≤1048576) (h1:zcy now nx T O P L K=true) (hf:fK K id = -1) (hn:inQ 0 id 1000000=true) (hl1:inQ 0 lf ((T.length:Int)-1)=true) (hl2:zdd T lf=true) (hpl:inQ 0 pl ((L.length:Int)-1)=true) (p:Nat) (hpe:pl=(p:Int)) (hp:p<L.length) (hk:zlq kd=true) (h40:K.length=40):Calls Tryz.prog 11 #[zcp now aT T.length cT aO O.length cO aP P.length cP aL L.length cL aK K.length cK nx,.int .i64 id,.int .i64 lf,.int .i64 pl,.int .i64 kd] w (zbx w now nx T O P L K (.int .i64 6)):=by
 have sKm:=zjj sK
 have mKm:=zng mK
 obtain ⟨nT,nO,nP⟩:=zcb (zbc h1)
 have hli:(T.length:Int)≤1048576:=by omega
 have hLi:(L.length:Int)≤1048576:=by omega
 have hm:=zkr (zbc h1) hp
 subst hpe
 have hp':(p:Int)<(L.length:Int):=by omega
 have hp0:(0:Int)≤(p:Int):=by omega
 obtain ⟨b,off,sa,sc,hal,hbl,d0,d1,d2,sm⟩:=hL p hp
 subst hal
 obtain ⟨m,hm'⟩:∃m,L[p].2.2.length=m:=⟨_,rfl⟩
 rw [hm'] at d2 hm
 have hm50:((m:Int) == 50)=false:=by rw [beq_eq_false_iff_ne];omega
 have hq:∀x,Below w.heap.size w x→x.cell? ⟨b,off+p*3+2,none⟩=some (.slice sa m sc):=fun x hx=>(hx.cell (by exact hbl)).trans d2
 clear d0 d1 d2 sm hm'
 have e40:((K.length:Int) == 40)=true:=by rw [beq_iff_eq];omega
 clear h40
 obtain ⟨v,hv,nb,L0,L1⟩:=ziw w 31 [.int .i64 now,.slice aT T.length cT,.slice aO O.length cO,.slice aP P.length cP,.slice (some ⟨b,off,none⟩) L.length cL,.slice aK K.length cK,.int .i64 nx]
 have hw1:=L1.lt
 go_enter Tryz.func11,Tryz.ntmps11
 go_upto_region 1 with (fail)
 rw [←hv]
 clear hv
 obtain ⟨q0,q1,q2,q3,q4,q5,q6⟩:=Lay.c7 (b:=w.heap.size) L0
 go_wp2_with (first|(go_at_call 40;refine (za1 cT cO cP cL cK h1 (hT.here nb) (hO.here nb) (hP.here nb) (hL.here nb) (hK.here nb) mT mL mK sKm).mono ?_;rintro e v2 ⟨rfl,hb2⟩;have b2:=zaa nb hb2;have M0:=L0.next hb2;have M1:=L1.next hb2;clear q0 q1 q2 q3 q4 q5 q6;obtain ⟨q0,q1,q2,q3,q4,q5,q6⟩:=Lay.c7 (b:=w.heap.size) M0;skip)|(go_at_call 48;have tk:=g2;refine (zbr hpl _).mono ?_;rintro e w3 ⟨rfl,e3⟩;replace e3:=e3.symm;subst e3)|(go_at_call 48;have tk:=g1;refine (zbr hl1 _).mono ?_;rintro e w3 ⟨rfl,e3⟩;replace e3:=e3.symm;subst e3;have g2:=True.intro)|(go_at_call 48;refine (zbr hn _).mono ?_;rintro e w3 ⟨rfl,e3⟩;replace e3:=e3.symm;subst e3;have g1:=True.intro)|(go_at_call 50;refine (zc6 cT hl2 (hT.here b3) mT).mono ?_;rintro e w3 ⟨rfl,e3⟩;replace e3:=e3.symm;subst e3)|(go_at_call 51;refine (ztv hk _).mono ?_;rintro e w3 ⟨rfl,e3⟩;replace e3:=e3.symm;subst e3)|(go_at_call 49;refine (zcd now nx id (hK.here b2) mKm).mono ?_;rintro e v3 ⟨rfl,hb3⟩;rw [hf];have b3:=zaa b2 hb3;have N0:=M0.next hb3;have N1:=M1.next hb3;clear q0 q1 q2 q3 q4 q5 q6;obtain ⟨q0,q1,q2,q3,q4,q5,q6⟩:=Lay.c7 (b:=w.heap.size) N0;have c2:=hq v3 b3)|(go_at_call 47;refine (zco now nx cT cO cP cL cK (hT.here b3) (hO.here b3) (hP.here b3) (hL.here b3) (hK.here b3) nT nO nP mL sL mK sK 6 (by decide)).mono ?_;rintro e u1 ⟨bT,dT,bO,dO,bP,dP,bL,dL,bK,dK,rfl,eg,hb1⟩;have HEG:Hid (Eng u1 v3.heap.size u1.heap.size (.slice bT T.length dT) (.slice bO O.length dO) (.slice bP P.length dP) (.slice bL L.length dL) (.slice bK K.length dK) T O P L K):=eg;have LU:=N1.next hb1;obtain ⟨z0,z1,z2,z3,z4,z5,z6⟩:=Lay.c7 (b:=w.heap.size+1) LU;have fz:=LU.free))
 obtain ⟨u,hu',ou,U⟩:=st7 (b:=w.heap.size+1) LU (.int .i64 now) (.slice bT T.length dT) (.slice bO O.length dO) (.slice bP P.length dP) (.slice bL L.length dL) (.slice bK K.length dK) (.int .i64 nx)
 rw [hu']
 clear hu'
 have zu:=ou.size
 have bw:=zaa b3 hb1
 have zb:=b2.size
 have z2:=hb2.size
 have zbb:=b3.size
 have z3:=hb3.size
 refine bodyPost_ret (zak rfl _ _ _ _ rfl U.cell Tryz.underlying31 rfl (by kernel_rfl)) rfl ?_
 exact ⟨bT,dT,bO,dO,bP,dP,bL,dL,bK,dK,rfl,zvf HEG.out ou (by omega) (by omega) ou.size,bw.trans (ou.below (by omega) bw.size)⟩
theorem zvc {w:World} (now nx:Int) {aT aO aP aL aK:Option Addr} (cT cO cP cL cK:Nat) {T O P:List Q4} {L:List F8} {K:List Kn} (id lf pl kd:Int) (hT:Quad w.heap.size w aT T) (hO:Quad w.heap.size w aO O) (hP:Quad w.heap.size w aP P) (hL:Fls w.heap.size w aL L) (hK:Kls w.heap.size w aK K) (mT:T.length≤1048576) (mL:L.length≤1048576) (sL:∀f ∈ L,f.2.2.length≤1048576) (mK:K.length≤1048576) (sK:∀c ∈ K,c.xs.length≤1048576) (h1:zcy now nx T O P L K=true) (hf:fK K id = -1) (hn:inQ 0 id 1000000=true) (hl1:inQ 0 lf ((T.length:Int)-1)=true) (hl2:zdd T lf=true) (hpl:inQ 0 pl ((L.length:Int)-1)=true) (p:Nat) (hpe:pl=(p:Int)) (hp:p<L.length) (hk:zlq kd=true) (h40:K.length<40) (i:Nat) (hpos:PosK K id i):Calls Tryz.prog 11 #[zcp now aT T.length cT aO O.length cO aP P.length cP aL L.length cL aK K.length cK nx,.int .i64 id,.int .i64 lf,.int .i64 pl,.int .i64 kd] w (zbx w now nx T O P (L.set p (opnP L p id)) (zc8 K i (zoe id lf pl kd)) (.int .i64 0)):=by
 have sKm:=zjj sK
 have mKm:=zng mK
 obtain ⟨nT,nO,nP⟩:=zcb (zbc h1)
 have hli:(T.length:Int)≤1048576:=by omega
 have hLi:(L.length:Int)≤1048576:=by omega
 have l0:=(zbc h1).l0
 obtain ⟨i2,hi2,hq0,hq1,hq2⟩:=info_parts zhf
 have e40:((K.length:Int) == 40)=false:=by rw [beq_eq_false_iff_ne];omega
 have hm:=zkr (zbc h1) hp
 subst hpe
 have hp':(p:Int)<(L.length:Int):=by omega
 have hp0:(0:Int)≤(p:Int):=by omega
 obtain ⟨b,off,sa,sc,hal,hbl,d0,d1,d2,sm⟩:=hL p hp
 subst hal
 obtain ⟨m,hm'⟩:∃m,L[p].2.2.length=m:=⟨_,rfl⟩
 rw [hm'] at d2 hm
 have hm50:((m:Int) == 50)=false:=by rw [beq_eq_false_iff_ne];omega
 have hq:∀x,Below w.heap.size w x→x.cell? ⟨b,off+p*3+2,none⟩=some (.slice sa m sc):=fun x hx=>(hx.cell (by exact hbl)).trans d2
 clear d0 d1 d2 sm hm'
 have hpb:=((zbc h1).pl p hp).1
 have hhas:=zxf (zbc h1) hp hf
 have h50:L[p].2.2.length<50:=by have:=zkr (zbc h1) hp;omega
 rw [zxd hp id]
 have HPB:Hid (plB L[p].1 L[p].2.1 L[p].2.2=true):=hpb
 have HHS:Hid (hasI id L[p].2.2=false):=hhas
 have H5:Hid (L[p].2.2.length<50):=h50
 have HPOS:Hid (PosK K id i):=hpos
 have hp':(p:Int)<(L.length:Int):=by omega
 have hp0:(0:Int)≤(p:Int):=by omega
 have hik:=hpos.le
 have hkk:zkz kd=true:=zzc hk
 clear hpb hhas hpos h50
 obtain ⟨v,hv,nb,L0,L1⟩:=ziw w 31 [.int .i64 now,.slice aT T.length cT,.slice aO O.length cO,.slice aP P.length cP,.slice (some ⟨b,off,none⟩) L.length cL,.slice aK K.length cK,.int .i64 nx]
 have hw1:=L1.lt
 go_enter Tryz.func11,Tryz.ntmps11
 go_upto_region 1 with (fail)
 rw [←hv]
 clear hv
 obtain ⟨q0,q1,q2,q3,q4,q5,q6⟩:=Lay.c7 (b:=w.heap.size) L0
 go_upto_region 14 with (first|(go_at_call 40;refine (za1 cT cO cP cL cK h1 (hT.here nb) (hO.here nb) (hP.here nb) (hL.here nb) (hK.here nb) mT mL mK sKm).mono ?_;rintro e v2 ⟨rfl,hb2⟩;have b2:=zaa nb hb2;have M0:=L0.next hb2;have M1:=L1.next hb2;clear q0 q1 q2 q3 q4 q5 q6;obtain ⟨q0,q1,q2,q3,q4,q5,q6⟩:=Lay.c7 (b:=w.heap.size) M0;skip)|(go_at_call 48;have tk:=g2;refine (zbr hpl _).mono ?_;rintro e w3 ⟨rfl,e3⟩;replace e3:=e3.symm;subst e3)|(go_at_call 48;have tk:=g1;refine (zbr hl1 _).mono ?_;rintro e w3 ⟨rfl,e3⟩;replace e3:=e3.symm;subst e3;have g2:=True.intro)|(go_at_call 48;refine (zbr hn _).mono ?_;rintro e w3 ⟨rfl,e3⟩;replace e3:=e3.symm;subst e3;have g1:=True.intro)|(go_at_call 50;refine (zc6 cT hl2 (hT.here b3) mT).mono ?_;rintro e w3 ⟨rfl,e3⟩;replace e3:=e3.symm;subst e3)|(go_at_call 51;refine (ztv hk _).mono ?_;rintro e w3 ⟨rfl,e3⟩;replace e3:=e3.symm;subst e3)|(go_at_call 49;refine (zcd now nx id (hK.here b2) mKm).mono ?_;rintro e v3 ⟨rfl,hb3⟩;rw [hf];have b3:=zaa b2 hb3;have N0:=M0.next hb3;have N1:=M1.next hb3;clear q0 q1 q2 q3 q4 q5 q6;obtain ⟨q0,q1,q2,q3,q4,q5,q6⟩:=Lay.c7 (b:=w.heap.size) N0;have c2:=hq v3 b3)|(go_at_call 52;refine (zct now nx cT cO cP cL cK (hT.here b3) (hO.here b3) (hP.here b3) (hL.here b3) (hK.here b3) nT nO nP mL sL mK sK).mono ?_;rintro e u1 ⟨bT,dT,bO,dO,bP,dP,bL,dL,bK,dK,GK,lh,ph,rfl,lv,lb,tv,ck,hz,hb1⟩))
 obtain ⟨gl,hbL⟩:∃gl,bL=some ⟨gl,0,none⟩:=by
  rcases tv with ⟨g,cap,vs,e,_⟩|⟨e,_⟩
  ·injection e with e1
   exact ⟨g,e1⟩
  ·rw [e] at l0
   simp at l0
 subst hbL
 have hglb:lh≤gl∧gl<ph:=by
  rcases tv with ⟨g,cap,vs,e,_,f⟩|⟨e,_⟩
  ·injection e with e1
   injection e1 with e1
   injection e1 with e1
   subst e1
   exact ⟨f.g0,f.g1⟩
  ·rw [e] at l0
   simp at l0
 have hgl1:=hglb.1
 have hgl2:=hglb.2
 obtain ⟨x,hx,LX,bx⟩:=ze8 u1 31 [.int .i64 now,.slice bT T.length dT,.slice bO O.length dO,.slice bP P.length dP,.slice (some ⟨gl,0,none⟩) L.length dL,.slice bK K.length dK,.int .i64 nx]
 rw [←hx]
 clear hx q0 q1 q2 q3 q4 q5 q6
 have X1:=(N1.next hb1).next bx
 obtain ⟨j0,j1,j2,j3,j4,j5,j6⟩:=LX.c7
 have z1:=hb1.size
 have zx:=bx.size
 have zb:=b3.size
 have z3:=hb3.size
 have hlx:=LX.lt
 have hn1:=N1.lt
 have hzA:=hz.1
 have hzB:=hz.2.1
 have hzC:=hz.2.2
 go_upto_region 15 with (first|(go_at_call 53;refine (znl _ hkk).mono ?_;rintro e x4 ⟨rfl,hbn⟩;have L4:=LX.next hbn;have X4:=X1.next hbn;clear j0 j1 j2 j3 j4 j5 j6;obtain ⟨j0,j1,j2,j3,j4,j5,j6⟩:=Lay.c7 (b:=u1.heap.size) L4))
 obtain ⟨y0,hy0,LC,by0⟩:=ze8 x4 44 [.int .i64 kd,.int .i64 15000,.int .i64 1000000000,.int .i64 0,.int .i64 0,.int .i64 0,.int .i64 0,.int .i64 0,.int .i64 0,.bool true]
 rw [←hy0]
 clear hy0 j0 j1 j2 j3 j4 j5 j6
 obtain ⟨g0,g1',g2',g3,g4,g5,g6,g7,g8,g9⟩:=LC.c10
 have L5:=L4.next by0
 have X5:=X4.next by0
 go_upto_region 16 with (fail)
 obtain ⟨y1,hy1,LK,by1⟩:=ze8 y0 47 [.int .i64 id,.int .i64 lf,.int .i64 (p:Int),.int .i64 kd,.int .i64 15000,.int .i64 1000000000,.int .i64 0,.int .i64 0,.int .i64 0,.int .i64 0,.int .i64 0,.int .i64 0,.bool true,.slice none 0 0]
 rw [←hy1]
 clear hy1 g0 g1' g2' g3 g4 g5 g6 g7 g8 g9
 have L6:=L5.next by1
 have X6:=X5.next by1
 have bu:Below u1.heap.size u1 y1:=zaa (zaa (zaa bx hbn) by0) by1
 have zbn:=hbn.size
 have zy0:=by0.size
 have zy1:=by1.size
 have zbu:=bu.size
 have hlk:=LK.lt
 have HCK1:Hid (CpK u1 ph (.slice bK K.length dK) GK K):=ck
 have HSEPK:Hid (∀q,(Value.slice bK K.length dK).ownBlock=some q→ph≤q∧q<u1.heap.size):=fun q hq=>ck.row.lt q hq
 have CY:Hid (CpK y1 ph (.slice bK K.length dK) GK K):=ck.next bu
 go_upto_region 17 with (fail)
 obtain ⟨y2,hy2⟩:∃y,y=y1.alloc (.cells #[] 47):=⟨_,rfl⟩
 rw [←hy2]
 have R2:Hid (y2.ownsRow y1.heap.size 47 14 (.slice (some ⟨y1.heap.size,0,none⟩) 0 0) 0 (zbl (GK.take 0))):=by show World.ownsRow ..;rw [hy2];exact ⟨rfl,.inr ⟨y1.heap.size,0,#[],rfl,Nat.le_refl _,heap_alloc_new _ _,Nat.le_refl _,by unfold maxLen;omega,rfl,rfl⟩⟩
 have by2:Below y1.heap.size y1 y2:=by rw [hy2];exact zac _ _
 clear hy2
 have HHF:Hid (fK K id = -1):=hf
 clear hf
 go_wp2
 go_loopw [16,17] (fun s t wr=>∃(a:Option Addr) (j c:Nat),s=.slice a j c∧t=.int .i64 (j:Int)∧j≤i∧Hid (wr.ownsRow y1.heap.size 47 14 (.slice a j c) j (zbl (GK.take j)))∧Below y1.heap.size y1 wr) (fun _ t _=>i-(intOf t).toNat)
 case atStart=>exact ⟨_,0,0,rfl,rfl,Nat.zero_le _,R2,by2⟩
 case round =>
  clear R2 by2
  obtain ⟨a,j,c,rfl,rfl,hj,HO,hbw⟩:=hrel
  have LW:=L6.next hbw
  obtain ⟨j0,j1,j2,j3,j4,j5,j6⟩:=LW.c7
  have hij:(j:Int)≤(i:Int):=by omega
  have hik':(i:Int)≤(K.length:Int):=by omega
  have hj0:(0:Int)≤(j:Int):=by omega
  go_upto_region 18 with (fail)
  go_cut [127] from 113 to 127 (fun s wd=>∃f:Bool,s=.bool f∧(f=true ↔ j<i)∧wd=wr)
  case first =>
   by_cases hjk:j<K.length
   ·have hjk':decide ((j:Int)<(K.length:Int))=true:=decide_eq_true (by omega)
    have hjk2:(j:Int)<(K.length:Int):=by omega
    obtain ⟨gk,hbK⟩:∃gk,bK=some ⟨gk,0,none⟩:=by
     rcases CY.out.row.2 with ⟨e,e2⟩|⟨gk,capk,cur,e,_⟩
     ·omega
     ·injection e with e1
      exact ⟨gk,e1⟩
    subst hbK
    have hiG:j<GK.length:=by rw [CY.out.len];exact hjk
    have cid:wr.cell? ⟨gk,j*14,none⟩=some (.int .i64 K[j].id):=by
     have q:=(CY.out.next hbw).row.cellAt (j*14) (by omega)
     rw [q]
     have r:=zbw GK j hiG 0 (by omega)
     rw [Nat.add_zero] at r
     rw [r]
     show some (Value.int .i64 GK[j].1.id)=_
     have:(GK.map Prod.fst)[j]?=K[j]?:=by rw [CY.out.fst]
     rw [List.getElem?_map,List.getElem?_eq_getElem hiG,List.getElem?_eq_getElem hjk] at this
     rw [Option.some.inj this]
    by_cases hji:j<i
    ·have hd:decide (K[j].id<id)=true:=decide_eq_true (HPOS.out.lo j hjk hji)
     clear HPOS
     go_wp2
     go_meet
     exact ⟨true,rfl,⟨fun _=>hji,fun _=>rfl⟩,rfl⟩
    ·have hd:decide (K[j].id<id)=false:=decide_eq_false (by have:=HPOS.out.hi j hjk (by omega);omega)
     clear HPOS
     go_wp2
     go_meet
     exact ⟨false,rfl,⟨fun e=>(by cases e),fun e=>absurd e hji⟩,rfl⟩
   ·have hjk':decide ((j:Int)<(K.length:Int))=false:=decide_eq_false (by omega)
    go_wp2
    go_meet
    exact ⟨false,rfl,⟨fun e=>(by cases e),fun e=>(by omega)⟩,rfl⟩
  case rest =>
  obtain ⟨f,rfl,hf,e⟩:=hcut
  replace e:=e.symm
  subst e
  cases f
  rotate_left 1
  ·have hji:j<i:=hf.1 rfl
   have hjk:j<K.length:=by omega
   have hjk2:(j:Int)<(K.length:Int):=by omega
   obtain ⟨gk,hbK⟩:∃gk,bK=some ⟨gk,0,none⟩:=by
    rcases CY.out.row.2 with ⟨e,e2⟩|⟨gk,capk,cur,e,_⟩
    ·omega
    ·injection e with e1
     exact ⟨gk,e1⟩
   subst hbK
   have hiG:j<GK.length:=by rw [CY.out.len];exact hjk
   obtain ⟨cj,hcj⟩:∃q,GK[j].1=q:=⟨_,rfl⟩
   obtain ⟨m,hm⟩:∃m,cj.xs.length=m:=⟨_,rfl⟩
   obtain ⟨sv,cv,hsv⟩:=zay (CY.out.ints j hiG)
   rw [hcj,hm] at hsv
   have hG:GK[j]=(cj,.slice sv m cv):=Prod.ext hcj hsv
   have dd:∀k u,(zgt (cj,.slice sv m cv))[k]?=some u→wr.cell? ⟨gk,j*14+k,none⟩=some u:=fun k u hu=>by
    have hk:=(List.getElem?_eq_some_iff.1 hu).1
    rw [zb0] at hk
    refine ((CY.out.next hbw).row.cellAt _ (by omega)).trans ((zbw GK j hiG k hk).trans ?_)
    rw [hG]
    exact hu
   have d0:wr.cell? ⟨gk,j*14,none⟩=some (.int .i64 cj.id):=dd 0 _ rfl
   have d1:wr.cell? ⟨gk,j*14+1,none⟩=some (.int .i64 cj.lf):=dd 1 _ rfl
   have d2:wr.cell? ⟨gk,j*14+2,none⟩=some (.int .i64 cj.pl):=dd 2 _ rfl
   have d3:wr.cell? ⟨gk,j*14+3,none⟩=some (.int .i64 cj.k):=dd 3 _ rfl
   have d4:wr.cell? ⟨gk,j*14+4,none⟩=some (.int .i64 cj.wn):=dd 4 _ rfl
   have d5:wr.cell? ⟨gk,j*14+5,none⟩=some (.int .i64 cj.th):=dd 5 _ rfl
   have d6:wr.cell? ⟨gk,j*14+6,none⟩=some (.int .i64 cj.fl):=dd 6 _ rfl
   have d7:wr.cell? ⟨gk,j*14+7,none⟩=some (.int .i64 cj.ac):=dd 7 _ rfl
   have d8:wr.cell? ⟨gk,j*14+8,none⟩=some (.int .i64 cj.la):=dd 8 _ rfl
   have d9:wr.cell? ⟨gk,j*14+9,none⟩=some (.int .i64 cj.og):=dd 9 _ rfl
   have d10:wr.cell? ⟨gk,j*14+10,none⟩=some (.int .i64 cj.st):=dd 10 _ rfl
   have d11:wr.cell? ⟨gk,j*14+11,none⟩=some (.int .i64 cj.fr):=dd 11 _ rfl
   have d12:wr.cell? ⟨gk,j*14+12,none⟩=some (.bool cj.sl):=dd 12 _ rfl
   have d13:wr.cell? ⟨gk,j*14+13,none⟩=some (.slice sv m cv):=dd 13 _ rfl
   have HJ1:Hid (∀u ∈ zgt (cj,Value.slice sv m cv),u.oneCell'=true):=hG ▸ z18 CY.out hiG
   have HNX:Hid (zbl (GK.take j) ++ zgt (cj,Value.slice sv m cv)=zbl (GK.take (j+1))):=by
    show _=_
    have e2:zbl [(cj,Value.slice sv m cv)]=zgt (cj,Value.slice sv m cv):=by simp [zbl]
    rw [List.take_succ_eq_append_getElem hiG,zfe,hG,e2]
   clear dd hcj hsv hG hm hf
   go_wp2_with (first|(at_builtin;refine wpList_append_own _ rfl _ _ 29 rfl y1.heap.size 47 i2 _ 14 128 Tryz.underlying29 hi2 hq0 hq1 hq2 rfl (by decide) _ _ _ rfl (HO.out.alloc _) ⟨wr.heap.size,0,none⟩ 1 1 (zgt (cj,.slice sv m cv)) rfl rfl (fun q u hu=>by rw [zff,Nat.zero_add,World.cell?_alloc_at _ _ _ _ rfl,←Array.getElem?_toList];exact hu) HJ1.out (by unfold maxLen;omega) (by omega) (by have:=hbw.size;simp;omega) ?_;intro v1 w1 hown hgr hnil;obtain ⟨a1,c1,rfl⟩:=zay hown))
   go_roundw
   case rel=>exact ⟨_,j+1,_,rfl,by go_num,by omega,(by rw [←HNX.out];exact hown),(hbw.trans ((zac _ _).mono hbw.size)).grown hgr (by have:=hbw.size;simp;omega) (fun k hk=>(HO.out.lt k hk).1)⟩
   case measure=>simp [intOf];omega
  have hji:i=j:=by
   have:¬j<i:=fun h=>by have:=hf.2 h;cases this
   omega
  subst hji
  clear hf hj hij
  go_upto_region 21 with (fail)
  have av0:=zzk CY.out hik
  obtain ⟨av,hav⟩:∃av,(if dK=i then bK else bK.map (·.add (i*14)))=av:=⟨_,rfl⟩
  rw [hav] at av0
  have HSRC:Hid (∀u,Below y1.heap.size y1 u→SrcK u av (K.length-i) (dK-i) (zbl (GK.drop i))):=fun u hu=>av0.next hu
  have HSB:Hid (∀w,(Instr.sliceAt 29 (.slice bK K.length dK) (some (.int .i64 (i:Int))) none none).run Tryz.prog w=.ok (.slice av (K.length-i) (dK-i)) w):=fun w=>by
   have q:=zr8 (a:=bK) (n:=K.length) (cap:=dK) (k:=i) hik w
   rw [hav] at q
   exact q
  have hGl:=CY.out.len
  have HL2:Hid ((zbl (GK.drop i)).length=(K.length-i)*14):=by show (zbl (GK.drop i)).length=_;rw [zaq,List.length_drop,hGl]
  have HO2:Hid (∀u ∈ zbl (GK.drop i),u.oneCell'=true):=zxj (fun x hx=>List.mem_of_mem_drop hx) (ztw CY.out)
  have HS9:Hid (∀u,Below y1.heap.size y1 u→u.cell? ⟨u1.heap.size,5,none⟩=some (.slice bK K.length dK)∧u.cell? ⟨y0.heap.size,0,none⟩=some (.int .i64 id)∧u.cell? ⟨y0.heap.size,1,none⟩=some (.int .i64 lf)∧u.cell? ⟨y0.heap.size,2,none⟩=some (.int .i64 (p:Int))∧u.cell? ⟨y0.heap.size,3,none⟩=some (.int .i64 kd)∧u.cell? ⟨y0.heap.size,4,none⟩=some (.int .i64 15000)∧u.cell? ⟨y0.heap.size,5,none⟩=some (.int .i64 1000000000)∧u.cell? ⟨y0.heap.size,6,none⟩=some (.int .i64 0)∧u.cell? ⟨y0.heap.size,7,none⟩=some (.int .i64 0)∧u.cell? ⟨y0.heap.size,8,none⟩=some (.int .i64 0)∧u.cell? ⟨y0.heap.size,9,none⟩=some (.int .i64 0)∧u.cell? ⟨y0.heap.size,10,none⟩=some (.int .i64 0)∧u.cell? ⟨y0.heap.size,11,none⟩=some (.int .i64 0)∧u.cell? ⟨y0.heap.size,12,none⟩=some (.bool true)∧u.cell? ⟨y0.heap.size,13,none⟩=some (.slice none 0 0)):=fun u hu=>⟨(L6.next hu).cell 5 _ rfl,⟨(LK.next hu).cell 0 _ rfl,(LK.next hu).cell 1 _ rfl,(LK.next hu).cell 2 _ rfl,(LK.next hu).cell 3 _ rfl,(LK.next hu).cell 4 _ rfl,(LK.next hu).cell 5 _ rfl,(LK.next hu).cell 6 _ rfl,(LK.next hu).cell 7 _ rfl,(LK.next hu).cell 8 _ rfl,(LK.next hu).cell 9 _ rfl,(LK.next hu).cell 10 _ rfl,(LK.next hu).cell 11 _ rfl,(LK.next hu).cell 12 _ rfl,(LK.next hu).cell 13 _ rfl⟩⟩
  clear av0 hav j0 j1 j2 j3 j4 j5 j6 LW
  refine zgu 11 HS9 hbw.drew fun hS=>?_
  refine zae 0 rfl ?_
  refine zae 1 rfl ?_
  refine zae 4 rfl ?_
  refine zae 5 rfl ?_
  refine zae 6 rfl ?_
  refine zae 7 rfl ?_
  refine z0k 8 (v:=.slice av (K.length-i) (dK-i)) rfl ?_ ?_
  ·(intro w' hSw;(try dsimp only at hSw);have h:=HSB.out w';simp [execOp,Act.eval,h,Result.andThen])
  try simp only [nrm]
  refine zai (i:=2) (by kernel_rfl) rfl (fun Kr hKr=>?_)
  go_simp
  refine hKr.out _ _ (HS9.out _ ((hbw.drew).trans ((Below.refl _ wr.drew).alloc hbw.size _))) (fun hS=>?_)
  try simp only [nrm]
  refine zai (i:=3) (by kernel_rfl) rfl (fun Kr hKr=>?_)
  rw [if_pos (by rfl)]
  have bA':Below wr.heap.size wr ((wr.alloc (.cells #[.int .i64 id,.int .i64 lf,.int .i64 (p:Int),.int .i64 kd,.int .i64 15000,.int .i64 1000000000,.int .i64 0,.int .i64 0,.int .i64 0,.int .i64 0,.int .i64 0,.int .i64 0,.bool true,.slice none 0 0] 47)).drew):=((Below.refl _ wr).alloc (Nat.le_refl _) _).drew
  refine wp_append_own _ _ _ 29 rfl y1.heap.size 47 i2 _ 14 128 Tryz.underlying29 hi2 hq0 hq1 hq2 rfl (by decide) _ _ _ rfl (za2 HO.out bA') ⟨wr.heap.size,0,none⟩ 1 1 (zgt (zoe id lf (p:Int) kd,Value.slice none 0 0)) rfl rfl (fun q u hu=>by rw [zff,Nat.zero_add];refine (World.cell?_alloc_at (w:=wr) _ _ _ _ rfl).trans ?_;rw [←Array.getElem?_toList];exact hu) (z17 _) (by unfold maxLen;omega) (by omega) (by have:=hbw.size;have:=bA'.size;omega) ?_
  intro v1 w1 hown1 hgr1 hnil1
  have hv0:∀k,(Value.slice a i c).ownBlock=some k→y1.heap.size≤k:=fun k hk=>(HO.out.lt k hk).1
  have bB:Below y1.heap.size y1 w1:=(hbw.trans (bA'.mono hbw.size)).grown hgr1 (by have:=hbw.size;have:=bA'.size;omega) hv0
  refine hKr.out _ _ (HS9.out _ bB) (fun hS=>?_)
  try simp only [nrm]
  refine zai (i:=9) (by kernel_rfl) rfl (fun Kr hKr=>?_)
  rw [if_pos (by rfl)]
  refine zmn _ _ _ 29 rfl y1.heap.size 47 i2 _ 14 128 Tryz.underlying29 hi2 hq0 hq1 hq2 rfl (by decide) _ _ _ rfl hown1 av (K.length-i) (dK-i) (zbl (GK.drop i)) rfl (HSRC.out _ bB) HL2.out HO2.out (by unfold maxLen;omega) (by omega) (by have:=bB.size;omega) ?_
  intro v2x w2 hown2 hgr2
  obtain ⟨a2,c2,rfl⟩:=zay hown2
  have hv1:∀k,v1.ownBlock=some k→y1.heap.size≤k:=fun k hk=>(hown1.lt k hk).1
  have bC:Below y1.heap.size y1 w2:=bB.grown hgr2 (by have:=bB.size;omega) hv1
  have LQ:=L6.next bC
  obtain ⟨j0,j1,j2,j3,j4,j5,j6⟩:=LQ.c7
  have jf:=LQ.free
  refine hKr.out _ _ (HS9.out _ bC) (fun hS=>?_)
  try simp only [nrm]
  refine zae 10 rfl ?_
  refine za4 (by kernel_rfl) rfl (by kernel_rfl) (fun Kr hKr=>?_)
  go_simp
  refine hKr.out _ _ ?_
  try simp only [nrm]
  obtain ⟨y,hyy⟩:∃y,y=w2.setCells u1.heap.size 5 [.slice a2 (i+1+(K.length-i)) c2]:=⟨_,rfl⟩
  have hy':w2.setCell ⟨u1.heap.size,5,none⟩ (.slice a2 (i+1+(K.length-i)) c2)=y:=hyy.symm
  rw [hy']
  clear hy'
  have oy:Only u1.heap.size w2 y:=by rw [hyy];exact zba _ _ _
  have LY:Lay y u1.heap.size [.int .i64 now,.slice bT T.length dT,.slice bO O.length dO,.slice bP P.length dP,.slice (some ⟨gl,0,none⟩) L.length dL,.slice a2 (i+1+(K.length-i)) c2,.int .i64 nx]:=by rw [hyy];exact LQ.put (p:=[.int .i64 now,.slice bT T.length dT,.slice bO O.length dO,.slice bP P.length dP,.slice (some ⟨gl,0,none⟩) L.length dL]) (q:=[.slice bK K.length dK]) (r:=[.int .i64 nx]) [.slice a2 (i+1+(K.length-i)) c2] rfl
  clear hyy j0 j1 j2 j3 j4 j5 j6 jf
  have zC:=bC.size
  have zoy:=oy.size
  have XY:=(X6.next bC).only oy (by omega)
  have bY:Below u1.heap.size u1 y:=(bu.trans (bC.mono (by omega))).trans (oy.below (Nat.le_refl _) (by omega))
  have zbY:=bY.size
  have hl2:(zc8 K i (zoe id lf (p:Int) kd)).length=i+1+(K.length-i):=by rw [zdi];omega
  have hiG:i≤GK.length:=by omega
  have hty2:∀b,(Value.slice a2 (i+1+(K.length-i)) c2).ownBlock=some b→y1.heap.size≤b:=fun b e=>(hown2.lt b e).1
  have cky:CpK y ph (.slice a2 (zc8 K i (zoe id lf (p:Int) kd)).length c2) (zc8 GK i (zoe id lf (p:Int) kd,Value.slice none 0 0)) (zc8 K i (zoe id lf (p:Int) kd)):=by
   refine HCK1.out.insert hik _ rfl ?_ (fun k hk=>za2 (HCK1.out.ints k hk) bY) bY.size
   rw [hl2,zxc,show K.length+1=i+1+(K.length-i) by omega]
   refine zqh (zcs ?_ (show ph≤y1.heap.size by omega)) (OnlyO.of_only oy) (fun b e e'=>by have:=hty2 b e;have:=Option.some.inj e';omega)
   have h2:=hown2
   rw [List.append_assoc] at h2
   exact h2
  obtain ⟨uL,eo⟩:=z1u (lv.next bY) lb (tv.next bY) cky ⟨hzA,hzB,by omega⟩
  have EY:Hid (EOwn y v3.heap.size y.heap.size (.slice bT T.length dT) (.slice bO O.length dO) (.slice bP P.length dP) (.slice (some ⟨gl,0,none⟩) L.length dL) uL (.slice a2 (zc8 K i (zoe id lf (p:Int) kd)).length c2) ((zc8 GK i (zoe id lf (p:Int) kd,Value.slice none 0 0)).map (·.2)) T O P L (zc8 K i (zoe id lf (p:Int) kd))):=eo
  clear eo cky lv tv
  go_upto_region 22 with (fail)
  obtain ⟨q0,q1,qf,sa,sc,q2,qu,qsm⟩:=EY.out.plc hp
  have hcap:L[p].2.2.length≤sc:=EY.out.capP hp qu
  have HSM:Hid (ISmp y.heap.size y sa L[p].2.2):=qsm
  have HS:Hid (∀u,Below y.heap.size y u→u.cell? ⟨u1.heap.size,4,none⟩=some (.slice (some ⟨gl,0,none⟩) L.length dL)):=fun u hu=>(LY.next hu).cell 4 _ rfl
  clear qf qu qsm
  refine zce HS (Below.refl _ _).drew fun hS=>?_
  refine zab 0 rfl ?_
  refine zab 1 rfl ?_
  refine zab 2 rfl ?_
  refine zab 3 rfl ?_
  refine zab 4 rfl ?_
  refine zab 5 rfl ?_
  refine zab 6 rfl ?_
  refine zab 8 rfl ?_
  refine zci 7 rfl fun Kr hKr=>?_
  go_simp
  refine hKr.out _ _ ‹_› fun _=>?_
  try simp only [nrm]
  refine zci 9 rfl fun Kr hKr=>?_
  go_simp
  (refine (zrk sc (Nat.le_of_lt H5.out) hcap (HSM.out.here (Below.refl _ _).drew)).mono ?_;rintro e u5 ⟨va,nv,cv2,rfl,iv5,hb5⟩;have nz:=zgm iv5;subst nz;have iv5:IV u5 y.heap.size (.slice va (zjt L[p].2.2 id).length cv2) (zjt L[p].2.2 id):=iv5;have hb5:=zbh hb5;have hS5:=HS.out _ hb5;have z5:=hb5.size;have HE5:=eoN EY hb5;obtain ⟨e0,e1,⟨pf0,pf1,pf2⟩,sb,sd,e2,pu,psm⟩:=HE5.out.plc hp)
  refine hKr.out _ _ ‹_› fun _=>?_
  try simp only [nrm]
  refine zab 10 rfl ?_
  refine zci 11 rfl fun Kr hKr=>?_
  go_simp
  obtain ⟨z,hzz⟩:∃z,z=u5.setCells gl (p*3) [.int .i64 L[p].1,.int .i64 L[p].2.1,.slice va (zjt L[p].2.2 id).length cv2]:=⟨_,rfl⟩
  have hz':((u5.setCell ⟨gl,p*3,none⟩ (.int .i64 L[p].1)).setCell ⟨gl,p*3+1,none⟩ (.int .i64 L[p].2.1)).setCell ⟨gl,p*3+2,none⟩ (.slice va (zjt L[p].2.2 id).length cv2)=z:=hzz.symm
  rw [hz']
  clear hz' e0 e1 pf0 pf1 pf2 e2 pu psm
  have ez:=HE5.out.setP (hi':=u5.heap.size) (q:=L[p].1) (d:=L[p].2.1) hp (iv5.io.wider (by omega) (Nat.le_refl _)) (fun b hb=>.inr (fun hn=>by have:=(iv5.io.el hb).1;have:=HE5.out.bd hn;omega)) (by omega) (Nat.le_refl _)
  rw [←hzz] at ez
  have oz:Only gl u5 z:=by rw [hzz];exact zba _ _ _
  clear hzz
  have LZ:=(LY.next hb5).only oz (by omega)
  have XZ:=(XY.next hb5).only oz (by omega)
  have zoz:=oz.size
  refine hKr.out _ _ (LZ.cell 4 _ rfl) (fun hS=>?_)
  try simp only [nrm]
  refine wpAnyH_done (by kernel_rfl) ?_ _
  obtain ⟨j0,j1,j2,j3,j4,j5,j6⟩:=LZ.c7
  obtain ⟨r0,r1,r2,r3,r4,r5,r6⟩:=XZ.c7
  have rf:=XZ.free
  go_wp2
  obtain ⟨u,hu',ou,U⟩:=st7 (b:=w.heap.size+1) XZ (.int .i64 now) (.slice bT T.length dT) (.slice bO O.length dO) (.slice bP P.length dP) (.slice (some ⟨gl,0,none⟩) L.length dL) (.slice a2 (i+1+(K.length-i)) c2) (.int .i64 nx)
  rw [hu']
  clear hu'
  have bw1:Below w.heap.size w u1:=zaa b3 hb1
  have zbw1:=bw1.size
  have bwy:Below w.heap.size w y:=bw1.trans (bY.mono (by omega))
  have bwz:Below w.heap.size w z:=(bwy.trans (hb5.mono (by omega))).trans (oz.below (by omega) (by omega))
  have hnn:¬inE (.slice bT T.length dT) (.slice bO O.length dO) (.slice bP P.length dP) (.slice (some ⟨gl,0,none⟩) (L.set p (L[p].1,L[p].2.1,zjt L[p].2.2 id)).length dL) (uL.set p (.slice va (zjt L[p].2.2 id).length cv2)) (.slice a2 (zc8 K i (zoe id lf (p:Int) kd)).length c2) ((zc8 GK i (zoe id lf (p:Int) kd,Value.slice none 0 0)).map (·.2)) (w.heap.size+1):=fun hb=>by have:=ez.bd hb;omega
  have eu:=ez.only ou hnn
  have zu:=ou.size
  refine bodyPost_ret (zak rfl _ _ _ _ rfl U.cell Tryz.underlying31 rfl (by kernel_rfl)) rfl ?_
  exact ⟨bT,dT,bO,dO,bP,dP,some ⟨gl,0,none⟩,dL,a2,c2,by rw [List.length_set,hl2];rfl,eu.eng.wider (by omega) (by omega),bwz.trans (ou.below (by omega) bwz.size)⟩
end Go.Proofs.YthiojkjcmhojoaaGreat
