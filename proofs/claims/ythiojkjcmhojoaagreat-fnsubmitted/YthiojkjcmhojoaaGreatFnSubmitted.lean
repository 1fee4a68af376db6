/- Proved: whatever the bytes, the law FnSubmitted returns true (at the Engines and numbers that the model draws of them impl's Submit answers as spec's does; a refused Engine stays as it was; else what is submitted lies behind all that zld at the one connection, and the Engine is right again), and the bytes read as before; no condition. -/
import Derived.Test.YthiojkjcmhojoaaGreatGrpBPX1
namespace Go.Proofs.YthiojkjcmhojoaaGreat.fnSubmitted
set_option maxHeartbeats 16000000
open Go.ChangeShapes Go.WideShapes Go.ChangeAt Go.RowKit
open Go.ChangeMaps (open_string shut_string)
set_option linter.unusedVariables false
theorem own:ownKnob Tryz.prog.godebug=none:=by kernel_rfl
theorem z0q:laidOutB Tryz.prog=true:=by kernel_rfl
def z0r (k:IntKind) (w:World) (a:Option Addr) (len cap:Nat) (zs:List Int):Prop :=
 (a=none∧len=0∧cap=0∧zs=[]) ∨
 ∃x,a=some x∧len≤cap∧cap≤maxLen∧zs.length=cap∧(∀i,i<zs.length→w.cell? (x.add i)=some (.int k (zs.getD i 0)))∧∀n ∈ zs,(Lit.int k n).wf=true
set_option linter.unusedSimpArgs false
set_option linter.unusedVariables false
set_option maxRecDepth 100000
theorem row_of {w:World} {a:Option Addr} {len cap:Nat} {zs:List Int} (h:z0r .u8 w a len cap zs):Row w.heap.size a len w:=by
 intro i hi
 rcases h with ⟨rfl,rfl,rfl,rfl⟩|⟨x,rfl,hl,hm,hz,hcell,hwz⟩
 ·omega
 ·obtain ⟨b,off,spot⟩:=x
  have hspot:spot=none:=by simpa [Addr.add] using World.cell?_spot (hcell 0 (by omega))
  subst hspot
  have hc:=hcell i (by omega)
  have hc':w.cell? ⟨b,off+i,none⟩=some (.int .u8 (zs.getD i 0)):=by
   by_cases h0:i=0
   ·subst h0;simpa [Addr.add] using hc
   ·simpa [Addr.add,h0] using hc
  have hlt:i<zs.length:=by omega
  have hm:zs.getD i 0 ∈ zs:=by simp [List.getD,List.getElem?_eq_getElem hlt]
  obtain ⟨z0,z1⟩:=bounds_u8 (hwz _ hm)
  exact ⟨b,off,zs.getD i 0,rfl,World.block_lt_of_cell? w _ hc',hc',z0,z1⟩
theorem zw0 {a:Option Addr} {n cap k:Nat} (hk:k≤n) (hc:n≤cap) (w:World):(Instr.sliceAt 45 (.slice a n cap) none (some (.int .i64 (k:Int))) none).run Tryz.prog w=.ok (.slice a k cap) w:=by
 obtain ⟨i0,hi,_,hz1,_⟩:=info_parts zc7
 have hs:∀w:World,(sizeOf 2).run Tryz.prog w=.ok 1 w:=fun w=>by simp [sizeOf,typeInfo,hi,hz1]
 have h0:(0:Int)≤(k:Int):=by omega
 have hk':k≤cap:=by omega
 cases a with
 | none=>simp [Instr.sliceAt,Instr.slice,Instr.sliceBounds,Instr.sliceBound,asIntOf,run_underlying Tryz.underlying45,h0,hk',hs]
 | some a =>
  have h00:a.add 0=a:=by unfold Addr.add;simp
  simp [Instr.sliceAt,Instr.slice,Instr.sliceBounds,Instr.sliceBound,asIntOf,run_underlying Tryz.underlying45,h0,hk',hs,h00]
theorem z0s {w:World} {lo hi cK j g o n c:Nat} {sT sO sP vL:Value} {aK a:Option Addr} {T O P:List Q4} {L:List F8} {K:List Kn} (h:Eng w lo hi sT sO sP vL (.slice aK K.length cK) T O P L K) (hj:j<K.length) (ha:aK=some ⟨g,o,none⟩) (hc:w.cell? ⟨g,o+j*14+13,none⟩=some (.slice a n c)):n≤c:=by
 obtain ⟨lo',hi',uL,uK,_,_,x⟩:=h
 obtain ⟨gk,e,_⟩:=x.atK (by omega)
 rw [e] at ha
 injection ha with e1
 injection e1 with e1 e2 _
 subst e1 e2
 rw [e] at x
 obtain ⟨sa,sc,c13,ku,_⟩:=x.con13 hj
 have q:=x.capK hj ku
 rw [Nat.zero_add,c13] at hc
 injection hc with hc
 injection hc with _ h2 h3
 omega
theorem walk (a0:Option Addr) (len0 cap0:Nat) (z0:List Int) (w:World) (w0:z0r .u8 w a0 len0 cap0 z0) :
 Calls Tryz.prog 4 #[.slice a0 len0 cap0] w fun e w'=>e=.returned (.bool true)∧Below w.heap.size w w':=by
 have row:=row_of w0
 by_cases hs:len0≤4096
 ·go_enter Tryz.func4,Tryz.ntmps4
  go_upto_region 4 with (first
   | (go_at_call 17;refine (zlw cap0 hs row (Nat.le_refl _)).mono ?_;rintro e v1 ⟨E,a1,a2,rfl,ee,sm,hkn,hbw⟩;have HEE:Hid (Eng v1 w.heap.size v1.heap.size (.slice E.aT E.T.length E.cT) (.slice E.aO E.O.length E.cO) (.slice E.aP E.P.length E.cP) (.slice E.aL E.L.length E.cL) (.slice E.aK E.K.length E.cK) E.T E.O E.P E.L E.K):=ee;have SM0:Hid (Small E.T E.O E.P E.L E.K):=sm;have HKN:Hid (E.K≠[]):=hkn;clear ee sm hkn;have zw:=hbw.size)
   | go_in)
  obtain ⟨v2,hv2⟩:∃x,x=v1.alloc (.cells #[.int .i64 E.now,.slice E.aT E.T.length E.cT,.slice E.aO E.O.length E.cO,.slice E.aP E.P.length E.cP,.slice E.aL E.L.length E.cL,.slice E.aK E.K.length E.cK,.int .i64 E.nx] 31):=⟨_,rfl⟩
  obtain ⟨be,ebe⟩:∃b,b=v1.heap.size:=⟨_,rfl⟩
  rw [←hv2,←ebe]
  have ybe:v1.heap.size≤be∧be≤v1.heap.size:=by omega
  have ube:be<v2.heap.size:=by rw [hv2,ebe];simp
  have kv2:Below v1.heap.size v1 v2:=by rw [hv2];exact zab _ _
  have DP:Hid (Lay v2 (be) [.int .i64 E.now,.slice E.aT E.T.length E.cT,.slice E.aO E.O.length E.cO,.slice E.aP E.P.length E.cP,.slice E.aL E.L.length E.cL,.slice E.aK E.K.length E.cK,.int .i64 E.nx]):=by rw [hv2,ebe];exact zal [.int .i64 E.now,.slice E.aT E.T.length E.cT,.slice E.aO E.O.length E.cO,.slice E.aP E.P.length E.cP,.slice E.aL E.L.length E.cL,.slice E.aK E.K.length E.cK,.int .i64 E.nx] _ rfl
  clear hv2 ebe
  have hbw:Below w.heap.size w v2:=zaa hbw kv2
  have zw:=hbw.size
  have zz:=kv2.size
  have HEE:=zs7 HEE kv2
  obtain ⟨p0,p1,p2,p3,p4,p5,p6⟩:=Lay.c7 (b:=be) DP.out
  obtain ⟨YN,YX,YT,YO,YP,YL,YK,f,hY,hcs,hsp,him⟩:=subsL E.now E.nx E.T E.O E.P E.L E.K a1 a2 (Nat.le_trans SM0.out.t (by decide)) (Nat.le_trans SM0.out.l (by decide)) (fun f hf=>Nat.le_trans (SM0.out.lm f hf) (by decide)) (Nat.le_trans SM0.out.k (by decide)) (fun c hc=>Nat.le_trans (SM0.out.km c hc) (by decide))
  have SMY:Hid (Small YT YO YP YL YK):=hY
  have HCS:Hid ((f=1∧YN=0∧YX=0∧YT=[]∧YO=[]∧YP=[]∧YL=[]∧YK=[])∨(f≠0∧f≠1∧YN=E.now∧YX=E.nx∧YT=E.T∧YO=E.O∧YP=E.P∧YL=E.L∧YK=E.K)∨(f=0∧EgOk YN YX YT YO YP YL YK∧EgOk E.now E.nx E.T E.O E.P E.L E.K∧SubF a1 a2 E.K YK)):=hcs
  have HSP:Hid (∀(w:World) (aT aO aP aL aK:Option Addr) (cT cO cP cL cK:Nat),Quad w.heap.size w aT E.T→Quad w.heap.size w aO E.O→Quad w.heap.size w aP E.P→Fls w.heap.size w aL E.L→Kls w.heap.size w aK E.K→Calls Tryz.prog 19 #[zci E.now aT E.T.length cT aO E.O.length cO aP E.P.length cP aL E.L.length cL aK E.K.length cK E.nx,.int .i64 a1,.int .i64 a2] w (zb0 w YN YX YT YO YP YL YK (.int .i64 f))):=hsp
  have HIM:Hid (∀(w:World) (aT aO aP aL aK:Option Addr) (cT cO cP cL cK:Nat),Quad w.heap.size w aT E.T→Quad w.heap.size w aO E.O→Quad w.heap.size w aP E.P→Fls w.heap.size w aL E.L→Kls w.heap.size w aK E.K→Calls Tryz.prog 18 #[zci E.now aT E.T.length cT aO E.O.length cO aP E.P.length cP aL E.L.length cL aK E.K.length cK E.nx,.int .i64 a1,.int .i64 a2] w (zb0 w YN YX YT YO YP YL YK (.int .i64 f))):=him
  clear hsp him hcs hY
  go_upto_region 5 with (first
   | (go_at_call 18;obtain ⟨QT,QO,QP,QL,QK⟩:=zdj HEE.out;refine (HIM.out _ _ _ _ _ _ _ _ _ _ _ QT QO QP QL QK).mono ?_;rintro e vI ⟨aiT,ciT,aiO,ciO,aiP,ciP,aiL,ciL,aiK,ciK,rfl,ey,hbP⟩;have HEI:Hid (Eng vI v2.heap.size vI.heap.size (.slice aiT YT.length ciT) (.slice aiO YO.length ciO) (.slice aiP YP.length ciP) (.slice aiL YL.length ciL) (.slice aiK YK.length ciK) YT YO YP YL YK):=ey;have hbw:Below w.heap.size w vI:=zaa hbw hbP;have zw:=hbw.size;have zz:=hbP.size;clear p0 p1 p2 p3 p4 p5 p6;have DP:=ztk DP hbP;obtain ⟨p0,p1,p2,p3,p4,p5,p6⟩:=Lay.c7 (b:=be) DP.out;have HEE:=zs7 HEE hbP))
  obtain ⟨v3,hv3⟩:∃x,x=vI.alloc (.cells #[.int .i64 YN,.slice aiT YT.length ciT,.slice aiO YO.length ciO,.slice aiP YP.length ciP,.slice aiL YL.length ciL,.slice aiK YK.length ciK,.int .i64 YX] 31):=⟨_,rfl⟩
  obtain ⟨bx,ebx⟩:∃b,b=vI.heap.size:=⟨_,rfl⟩
  rw [←hv3,←ebx]
  have ybx:vI.heap.size≤bx∧bx≤vI.heap.size:=by omega
  have ubx:bx<v3.heap.size:=by rw [hv3,ebx];simp
  have kv3:Below vI.heap.size vI v3:=by rw [hv3];exact zab _ _
  have DX:Hid (Lay v3 (bx) [.int .i64 YN,.slice aiT YT.length ciT,.slice aiO YO.length ciO,.slice aiP YP.length ciP,.slice aiL YL.length ciL,.slice aiK YK.length ciK,.int .i64 YX]):=by rw [hv3,ebx];exact zal [.int .i64 YN,.slice aiT YT.length ciT,.slice aiO YO.length ciO,.slice aiP YP.length ciP,.slice aiL YL.length ciL,.slice aiK YK.length ciK,.int .i64 YX] _ rfl
  clear hv3 ebx
  have hbw:Below w.heap.size w v3:=zaa hbw kv3
  have zw:=hbw.size
  have zz:=kv3.size
  clear p0 p1 p2 p3 p4 p5 p6
  have DP:=ztk DP kv3
  obtain ⟨p0,p1,p2,p3,p4,p5,p6⟩:=Lay.c7 (b:=be) DP.out
  have HEE:=zs7 HEE kv3
  have HEI:=zs7 HEI kv3
  obtain ⟨xx0,xx1,xx2,xx3,xx4,xx5,xx6⟩:=Lay.c7 (b:=bx) DX.out
  go_upto_region 6 with (first
   | (go_at_call 19;obtain ⟨QT,QO,QP,QL,QK⟩:=zdj HEE.out;refine (HSP.out _ _ _ _ _ _ _ _ _ _ _ QT QO QP QL QK).mono ?_;rintro e vS ⟨asT,csT,asO,csO,asP,csP,asL,csL,asK,csK,rfl,ey,hbP⟩;have HES:Hid (Eng vS v3.heap.size vS.heap.size (.slice asT YT.length csT) (.slice asO YO.length csO) (.slice asP YP.length csP) (.slice asL YL.length csL) (.slice asK YK.length csK) YT YO YP YL YK):=ey;have hbw:Below w.heap.size w vS:=zaa hbw hbP;have zw:=hbw.size;have zz:=hbP.size;clear p0 p1 p2 p3 p4 p5 p6;have DP:=ztk DP hbP;obtain ⟨p0,p1,p2,p3,p4,p5,p6⟩:=Lay.c7 (b:=be) DP.out;clear xx0 xx1 xx2 xx3 xx4 xx5 xx6;have DX:=ztk DX hbP;obtain ⟨xx0,xx1,xx2,xx3,xx4,xx5,xx6⟩:=Lay.c7 (b:=bx) DX.out;have HEE:=zs7 HEE hbP;have HEI:=zs7 HEI hbP))
  obtain ⟨v4,hv4⟩:∃x,x=vS.alloc (.cells #[.int .i64 YN,.slice asT YT.length csT,.slice asO YO.length csO,.slice asP YP.length csP,.slice asL YL.length csL,.slice asK YK.length csK,.int .i64 YX] 31):=⟨_,rfl⟩
  obtain ⟨bs,ebs⟩:∃b,b=vS.heap.size:=⟨_,rfl⟩
  rw [←hv4,←ebs]
  have ybs:vS.heap.size≤bs∧bs≤vS.heap.size:=by omega
  have ubs:bs<v4.heap.size:=by rw [hv4,ebs];simp
  have kv4:Below vS.heap.size vS v4:=by rw [hv4];exact zab _ _
  have DS:Hid (Lay v4 (bs) [.int .i64 YN,.slice asT YT.length csT,.slice asO YO.length csO,.slice asP YP.length csP,.slice asL YL.length csL,.slice asK YK.length csK,.int .i64 YX]):=by rw [hv4,ebs];exact zal [.int .i64 YN,.slice asT YT.length csT,.slice asO YO.length csO,.slice asP YP.length csP,.slice asL YL.length csL,.slice asK YK.length csK,.int .i64 YX] _ rfl
  clear hv4 ebs
  have hbw:Below w.heap.size w v4:=zaa hbw kv4
  have zw:=hbw.size
  have zz:=kv4.size
  clear p0 p1 p2 p3 p4 p5 p6
  have DP:=ztk DP kv4
  obtain ⟨p0,p1,p2,p3,p4,p5,p6⟩:=Lay.c7 (b:=be) DP.out
  clear xx0 xx1 xx2 xx3 xx4 xx5 xx6
  have DX:=ztk DX kv4
  obtain ⟨xx0,xx1,xx2,xx3,xx4,xx5,xx6⟩:=Lay.c7 (b:=bx) DX.out
  have HEE:=zs7 HEE kv4
  have HEI:=zs7 HEI kv4
  have HES:=zs7 HES kv4
  obtain ⟨ss0,ss1,ss2,ss3,ss4,ss5,ss6⟩:=Lay.c7 (b:=bs) DS.out
  go_upto_region 8 with (first
   | (go_at_call 12;obtain ⟨QT,QO,QP,QL,QK⟩:=zdj HEI.out;obtain ⟨RT,RO,RP,RL,RK⟩:=zdj HES.out;refine (zir YN YX _ _ _ _ _ _ _ _ _ _ QT QO QP QL QK RT RO RP RL RK (Nat.le_trans SMY.out.t (by decide)) (Nat.le_trans SMY.out.o (by decide)) (Nat.le_trans SMY.out.p (by decide)) (Nat.le_trans SMY.out.l (by decide)) (fun f hf=>Nat.le_trans (SMY.out.lm f hf) (by decide)) (Nat.le_trans SMY.out.k (by decide)) (fun c hc=>Nat.le_trans (SMY.out.km c hc) (by decide))).mono ?_;rintro e v5 ⟨rfl,hbE⟩;have hbw:Below w.heap.size w v5:=zaa hbw hbE;have zw:=hbw.size;have zz:=hbE.size;clear p0 p1 p2 p3 p4 p5 p6;have DP:=ztk DP hbE;obtain ⟨p0,p1,p2,p3,p4,p5,p6⟩:=Lay.c7 (b:=be) DP.out;clear xx0 xx1 xx2 xx3 xx4 xx5 xx6;have DX:=ztk DX hbE;obtain ⟨xx0,xx1,xx2,xx3,xx4,xx5,xx6⟩:=Lay.c7 (b:=bx) DX.out;clear ss0 ss1 ss2 ss3 ss4 ss5 ss6;have DS:=ztk DS hbE;obtain ⟨ss0,ss1,ss2,ss3,ss4,ss5,ss6⟩:=Lay.c7 (b:=bs) DS.out;have HEE:=zs7 HEE hbE;have HEI:=zs7 HEI hbE;have HES:=zs7 HES hbE))
  clear DS HES HSP HIM
  clear ss0 ss1 ss2 ss3 ss4 ss5 ss6
  rcases HCS.out with ⟨e0,e1,e2,e3,e4,e5,e6,e7⟩|⟨h0,h1,e1,e2,e3,e4,e5,e6,e7⟩|⟨e0,hok,hok0,HFACT⟩
  ·clear HCS
   subst e0 e1 e2 e3 e4 e5 e6 e7
   go_wp2_with (first
    | (go_at_call 12;obtain ⟨QT,QO,QP,QL,QK⟩:=zdj HEI.out;refine (zir (bT:=none) (bO:=none) (bP:=none) (bL:=none) (bK:=none) 0 0 _ _ _ _ _ 0 0 0 0 0 QT QO QP QL QK (Quad.nil _ _ _) (Quad.nil _ _ _) (Quad.nil _ _ _) (Fls.nil _ _ _) (Kls.nil _ _ _) (by decide) (by decide) (by decide) (by decide) (fun f hf=>by cases hf) (by decide) (fun c hc=>by cases hc)).mono ?_;rintro e v6 ⟨rfl,hbE⟩;have hbw:Below w.heap.size w v6:=zaa hbw hbE))
   go_ret
   exact ⟨rfl,hbw⟩
  ·clear HCS
   subst e1 e2 e3 e4 e5 e6 e7
   go_wp2_with (first
    | (go_at_call 12;obtain ⟨QT,QO,QP,QL,QK⟩:=zdj HEI.out;obtain ⟨RT,RO,RP,RL,RK⟩:=zdj HEE.out;refine (zir E.now E.nx _ _ _ _ _ _ _ _ _ _ QT QO QP QL QK RT RO RP RL RK (Nat.le_trans SM0.out.t (by decide)) (Nat.le_trans SM0.out.o (by decide)) (Nat.le_trans SM0.out.p (by decide)) (Nat.le_trans SM0.out.l (by decide)) (fun f hf=>Nat.le_trans (SM0.out.lm f hf) (by decide)) (Nat.le_trans SM0.out.k (by decide)) (fun c hc=>Nat.le_trans (SM0.out.km c hc) (by decide))).mono ?_;rintro e v6 ⟨rfl,hbE⟩;have hbw:Below w.heap.size w v6:=zaa hbw hbE;have zw:=hbw.size;have zz:=hbE.size;clear p0 p1 p2 p3 p4 p5 p6;have DP:=ztk DP hbE;obtain ⟨p0,p1,p2,p3,p4,p5,p6⟩:=Lay.c7 (b:=be) DP.out;clear xx0 xx1 xx2 xx3 xx4 xx5 xx6;have DX:=ztk DX hbE;obtain ⟨xx0,xx1,xx2,xx3,xx4,xx5,xx6⟩:=Lay.c7 (b:=bx) DX.out;have HEE:=zs7 HEE hbE;have HEI:=zs7 HEI hbE))
   go_ret
   exact ⟨rfl,hbw⟩
  ·clear HCS
   subst e0
   have HBY:Hid (zcl YN YX YT YO YP YL YK=true):=zgl hok
   have HF:Hid (SubF a1 a2 E.K YK):=HFACT
   have HYL:Hid (YK.length=E.K.length):=HFACT.1
   have hk100:=SM0.out.k
   clear hok hok0 HFACT HKN
   obtain ⟨q1,q2,q3,q4,QK0⟩:=zdj HEE.out
   obtain ⟨q5,q6,q7,q8,RK0⟩:=zdj HEI.out
   have HQK:Hid (Kls v5.heap.size v5 E.aK E.K):=QK0
   have HRK:Hid (Kls v5.heap.size v5 aiK YK):=RK0
   clear q1 q2 q3 q4 q5 q6 q7 q8 QK0 RK0
   go_upto_region 12 with (fail)
   go_wp2
   go_loopw [10] (fun i wr=>∃j:Nat,i=.int .i64 j∧j≤E.K.length∧Hid (Below v5.heap.size v5 wr)) (fun i _=>E.K.length-(intOf i).toNat)
   case atStart=>exact ⟨0,rfl,by omega,Below.refl _ _⟩
   case round =>
    obtain ⟨j,rfl,hj,HB⟩:=hrel
    have D1:=ztk DP HB.out
    have D2:=ztk DX HB.out
    clear p0 p1 p2 p3 p4 p5 p6 xx0 xx1 xx2 xx3 xx4 xx5 xx6
    obtain ⟨p0,p1,p2,p3,p4,p5,p6⟩:=D1.out.c7
    obtain ⟨r0,r1,r2,r3,r4,r5,r6⟩:=D2.out.c7
    by_cases hlt:j<E.K.length
    ·have hlt':(j:Int)<(E.K.length:Int):=by omega
     have hj0:(0:Int)≤(j:Int):=by omega
     have hly:j<YK.length:=by rw [HYL.out];exact hlt
     have hly':(j:Int)<(YK.length:Int):=by omega
     have f1:=HF.out.2 j hlt hly
     obtain ⟨g1,o1,s1,n1,k1,hg1,x0,x13,m1⟩:=HQK.out j hlt
     obtain ⟨g2,o2,s2,n2,k2,hg2,y0,y13,m2⟩:=HRK.out j hly
     have hcp:=z0s HEI.out hly k2 y13
     have hxl:E.K[j].xs.length≤1000:=SM0.out.km _ (List.getElem_mem hlt)
     obtain ⟨z,hz⟩:∃z,E.K[j]=z:=⟨_,rfl⟩
     obtain ⟨y,hy⟩:∃y,YK[j]=y:=⟨_,rfl⟩
     rw [hz] at f1 x0 x13 m1 hxl
     rw [hy] at f1 y13 m2 hcp
     rw [k1] at p5
     rw [k2] at r5
     clear hz hy y0
     have e0:wr.cell? ⟨g1,o1+j*14,none⟩=some (.int .i64 z.id):=(HB.out.cell (by exact hg1)).trans (x0 0 _ rfl)
     have e13:wr.cell? ⟨g1,o1+j*14+13,none⟩=some (.slice s1 z.xs.length n1):=(HB.out.cell (by exact hg1)).trans x13
     go_upto_region 16 with (fail)
     have hr:Below wr.heap.size wr wr.drew:=(Below.refl _ _).drew
     have HXL:Hid (z.xs.length≤1000):=hxl
     clear hxl
     by_cases hid:z.id=a1
     ·have f1:=f1 hid
      rw [f1] at y13 m2 hcp
      rw [List.length_append,List.length_singleton] at y13 hcp
      have HCP:Hid (z.xs.length+1≤n2):=hcp
      obtain ⟨g3,o3,hs2,hg3,c3⟩:=m2 z.xs.length (by rw [List.length_append];simp)
      have c3':v5.cell? ⟨g3,o3+z.xs.length,none⟩=some (.int .i64 a2):=by simpa using c3
      subst hs2
      have HI1:Hid (ISmp wr.heap.size wr s1 z.xs):=m1.here HB.out
      have HI2:Hid (ISmp wr.heap.size wr (some ⟨g3,o3,none⟩) z.xs):=(show ISmp v5.heap.size v5 (some ⟨g3,o3,none⟩) z.xs from fun i hi=>by
       obtain ⟨b,off,e,hl,c⟩:=m2 i (by rw [List.length_append];omega)
       rw [List.getElem_append_left hi] at c
       exact ⟨b,off,e,hl,c⟩).here HB.out
      have d13:wr.cell? ⟨g2,o2+j*14+13,none⟩=some (.slice (some ⟨g3,o3,none⟩) (z.xs.length+1) n2):=(HB.out.cell (by exact hg2)).trans y13
      have dx:wr.cell? ⟨g3,o3+z.xs.length,none⟩=some (.int .i64 a2):=(HB.out.cell (by exact hg3)).trans c3'
      rw [hid] at e0
      have lw1:g1<wr.heap.size:=by have:=HB.out.size;omega
      have lw2:g2<wr.heap.size:=by have:=HB.out.size;omega
      have lw3:g3<wr.heap.size:=by have:=HB.out.size;omega
      have HS:Hid (∀w',Below wr.heap.size wr w'→w'.cell? ⟨be,5,none⟩=some (.slice (some ⟨g1,o1,none⟩) E.K.length E.cK)∧w'.cell? ⟨bx,5,none⟩=some (.slice (some ⟨g2,o2,none⟩) YK.length ciK)∧w'.cell? ⟨g1,o1+j*14,none⟩=some (.int .i64 a1)∧w'.cell? ⟨g1,o1+j*14+13,none⟩=some (.slice s1 z.xs.length n1)∧w'.cell? ⟨g2,o2+j*14+13,none⟩=some (.slice (some ⟨g3,o3,none⟩) (z.xs.length+1) n2)∧w'.cell? ⟨g3,o3+z.xs.length,none⟩=some (.int .i64 a2)):=fun w' h=>⟨(D1.out.next h).cell 5 _ (by rw [←k1];rfl),(D2.out.next h).cell 5 _ (by rw [←k2];rfl),(h.cell (by exact lw1)).trans e0,(h.cell (by exact lw1)).trans e13,(h.cell (by exact lw2)).trans d13,(h.cell (by exact lw3)).trans dx⟩
      have hd:decide (z.xs=z.xs)=true:=decide_eq_true rfl
      have hwl:IntKind.i64.wrap ((z.xs.length:Int)+1)=(z.xs.length:Int)+1:=by have:=HXL.out;rw [IntKind.wrap_i64];omega
      have hxi:(0:Int)≤(z.xs.length:Int):=by omega
      have hxj:(z.xs.length:Int)<((z.xs.length+1:Nat):Int):=by omega
      have hxk:(z.xs.length:Int)<(z.xs.length:Int)+1:=by omega
      clear f1 x0 x13 y13 m1 m2 c3 c3' hcp e0 e13 d13 dx p0 p1 p2 p3 p4 p5 p6 r0 r1 r2 r3 r4 r5 r6
      refine zb4 HS hr fun hS=>?_
      refine zac 0 rfl ?_
      refine zac 1 rfl ?_
      refine zac 2 rfl ?_
      refine zac 3 rfl ?_
      refine zac 4 rfl ?_
      refine zac 5 rfl ?_
      refine zac 6 rfl ?_
      refine zac 7 rfl ?_
      refine zac 8 rfl ?_
      refine zac 9 rfl ?_
      refine zac 10 rfl ?_
      refine zac 11 rfl ?_
      refine zac 12 rfl ?_
      refine zac 13 rfl ?_
      refine zac 14 rfl ?_
      refine zac 15 rfl ?_
      refine zac 16 rfl ?_
      refine zac 17 rfl ?_
      refine zac 18 rfl ?_
      refine zac 19 rfl ?_
      refine zac 20 rfl ?_
      refine zac 21 rfl ?_
      refine zac 22 rfl ?_
      refine zac 23 rfl ?_
      refine zac 24 rfl ?_
      refine zac 25 rfl ?_
      refine zac 26 rfl ?_
      refine zac 27 rfl ?_
      refine zac 28 rfl ?_
      refine zac 29 rfl ?_
      refine zac 30 rfl ?_
      refine zac 31 rfl ?_
      refine zac 32 rfl ?_
      refine zac 33 rfl ?_
      refine zac 34 rfl ?_
      refine zac 35 rfl ?_
      refine zac 36 rfl ?_
      refine zac 37 rfl ?_
      refine zac 38 rfl ?_
      refine zac 39 rfl ?_
      refine anyV 40 (v:=.slice (some ⟨g3,o3,none⟩) z.xs.length n2) rfl ?_ ?_
      ·(intro w' hSw;(try dsimp only at hSw);(have hsl:=zw0 (a:=some ⟨g3,o3,none⟩) (n:=z.xs.length+1) (cap:=n2) (k:=z.xs.length) (by omega) HCP.out;go_simp))
      try simp only [nrm]
      refine zac 41 rfl ?_
      refine zac 42 rfl ?_
      refine zac 43 rfl ?_
      refine zac 44 rfl ?_
      refine zac 45 rfl ?_
      refine zac 46 rfl ?_
      refine zcd 47 rfl fun Kr hKr=>?_
      go_simp
      (refine (zgi n2 n1 (HI2.out.here hr) (HI1.out.here hr) (Nat.le_trans HXL.out (by decide))).mono ?_;rintro e u3 ⟨rfl,hb3'⟩;rw [hd];have hr:=zaa hr hb3';have hS:=HS.out _ hr)
      refine hKr.out _ _ ‹_› fun _=>?_
      try simp only [nrm]
      refine zac 48 rfl ?_
      refine zac 49 rfl ?_
      refine zac 50 rfl ?_
      refine wpAnyH_done (by kernel_rfl) ?_ _
      go_wp2
      go_roundw
      case rel=>exact ⟨j+1,by go_num,by omega,zaa HB.out hr⟩
      case measure=>simp [intOf];omega
     ·have hS':Hid (¬z.id=a1):=hid
      have lw1:g1<wr.heap.size:=by have:=HB.out.size;omega
      have HS:Hid (∀w',Below wr.heap.size wr w'→w'.cell? ⟨be,5,none⟩=some (.slice (some ⟨g1,o1,none⟩) E.K.length E.cK)∧w'.cell? ⟨g1,o1+j*14,none⟩=some (.int .i64 z.id)):=fun w' h=>⟨(D1.out.next h).cell 5 _ (by rw [←k1];rfl),(h.cell (by exact lw1)).trans e0⟩
      clear f1 x0 x13 y13 m1 m2 hcp e0 e13 p0 p1 p2 p3 p4 p5 p6 r0 r1 r2 r3 r4 r5 r6
      refine zb4 HS hr fun hS=>?_
      refine zac 0 rfl ?_
      refine zac 1 rfl ?_
      refine zac 2 rfl ?_
      refine zac 3 rfl ?_
      refine zac 4 rfl ?_
      refine zac 5 rfl ?_
      refine zac 6 rfl ?_
      refine anyV 7 (v:=.bool false) rfl ?_ ?_
      ·(intro w' hSw;(try dsimp only at hSw);(have hdd:decide (z.id=a1)=false:=decide_eq_false hid;go_simp))
      try simp only [nrm]
      refine zac 8 rfl ?_
      refine zao 9 rfl ?_
      refine zao 10 rfl ?_
      refine zao 11 rfl ?_
      refine zao 12 rfl ?_
      refine zao 13 rfl ?_
      refine zao 14 rfl ?_
      refine zao 15 rfl ?_
      refine zao 16 rfl ?_
      refine zao 17 rfl ?_
      refine zao 18 rfl ?_
      refine zao 19 rfl ?_
      refine zao 20 rfl ?_
      refine zao 21 rfl ?_
      refine zao 22 rfl ?_
      refine zao 23 rfl ?_
      refine zao 24 rfl ?_
      refine zao 25 rfl ?_
      refine zao 26 rfl ?_
      refine zao 27 rfl ?_
      refine zao 28 rfl ?_
      refine zao 29 rfl ?_
      refine zao 30 rfl ?_
      refine zao 31 rfl ?_
      refine zao 32 rfl ?_
      refine zao 33 rfl ?_
      refine zao 34 rfl ?_
      refine zao 35 rfl ?_
      refine zao 36 rfl ?_
      refine zao 37 rfl ?_
      refine zao 38 rfl ?_
      refine zao 39 rfl ?_
      refine zao 40 rfl ?_
      refine zao 41 rfl ?_
      refine zao 42 rfl ?_
      refine zao 43 rfl ?_
      refine zao 44 rfl ?_
      refine zao 45 rfl ?_
      refine zao 46 rfl ?_
      refine zao 47 rfl ?_
      refine zao 48 rfl ?_
      refine zao 49 rfl ?_
      refine zac 50 rfl ?_
      refine wpAnyH_done (by kernel_rfl) ?_ _
      go_wp2
      go_roundw
      case rel=>exact ⟨j+1,by go_num,by omega,zaa HB.out hr⟩
      case measure=>simp [intOf];omega
    ·have hmd:¬(j:Int)<(E.K.length:Int):=by omega
     go_wp2_with (first|(go_at_call 16;obtain ⟨QT,QO,QP,QL,QK⟩:=zdj HEI.out;refine (zdl _ _ _ _ _ HBY.out (QT.here HB.out) (QO.here HB.out) (QP.here HB.out) (QL.here HB.out) (QK.here HB.out) (Nat.le_trans SMY.out.l (by decide)) (fun f hf=>Nat.le_trans (SMY.out.lm f hf) (by decide)) (Nat.le_trans SMY.out.k (by decide)) (fun c hc=>Nat.le_trans (SMY.out.km c hc) (by decide))).mono ?_;rintro e vZ ⟨rfl,hbZ⟩))
     go_ret
     exact ⟨rfl,zaa (zaa hbw HB.out) hbZ⟩
 ·have hbig:(4096:Int)<(len0:Int):=by omega
  go_enter Tryz.func4,Tryz.ntmps4
  go_wp2
  go_ret
  exact ⟨rfl,Below.refl _ _⟩
set_option maxRecDepth 100000 in
theorem lifted (os:Os) (started:os.Started) (H:Type) (enc:TypeId × Value→H) :
 ReturnsInHanded {} Tryz.checked os 4 .any (Rows.fnSubmittedSpec.pre6 enc Tryz.prog Tryz.f4 Rows.fnSubmittedRow.domain false) (Rows.fnSubmittedSpec.post enc Tryz.prog Tryz.f4 false true false false):=by
 refine returnsInHanded_of_change (C:=Tryz.checked) own started (by kernel_rfl) Tryz.func4
  (ChangeSpec.witness6 (enc:=enc) (C:=Tryz.checked) false ⟨#[],#[.slice none 0 0],[]⟩ 8 (by kernel_rfl) (by kernel_rfl) (by kernel_rfl) (by kernel_rfl)) ?_
 intro W base args ds gs before hval0 hW hcnd _
 have hval:∀(j:Nat) t v,Tryz.f4.params[j]?=some t→args[j]?=some v→Value.okWide Tryz.prog W .any base t v:=hval0
 have hW':=hW
 obtain ⟨p,q,hA0,hV,rfl,hfz,hnd⟩:=hW
 have hA:DataW.TrodAll enc Tryz.prog W 0 (fun _=>true) true Tryz.f4.params.toList args.toList ds p:=hA0
 rw [Tryz.params4] at hA hval
 obtain ⟨v0,vs0,d0,ds0,p0,q0,hargs,rfl,rfl,h0,r0⟩:=trodAll_cons hA
 obtain ⟨rfl,rfl,rfl⟩:=trodAll_nil r0
 obtain rfl:args=#[v0]:=by cases args;simp_all
 obtain ⟨rfl,rfl⟩:=trodVars_none hV
 obtain ⟨a0,len0,cap0,rfl⟩:=okWide_slice Tryz.underlying22 (hval 0 22 v0 rfl rfl)
 have k0:=h0
 have lt0:∀x ∈ p0,x.block<W.heap.size:=by obtain ⟨m,hm⟩:=k0;exact DataW.trod_lt m _ _ _ hm
 obtain ⟨z0,w0⟩:∃zs,z0r .u8 W a0 len0 cap0 zs:=by
  obtain ⟨fuel,hf⟩:=h0
  rcases open_ints Tryz.underlying22 Tryz.underlying5 (by kernel_rfl) hf with ⟨hcs,_⟩|⟨x,l,c,zs,hcs,_,hl,hm,hz,_,hcell,hwz⟩
  ·simp [Value.cells] at hcs
   obtain ⟨rfl,rfl,rfl⟩:=hcs
   exact ⟨[],.inl ⟨rfl,rfl,rfl,rfl⟩⟩
  ·simp [Value.cells] at hcs
   obtain ⟨rfl,rfl,rfl⟩:=hcs
   exact ⟨zs,.inr ⟨_,rfl,hl,hm,by simpa using hz,hcell,hwz⟩⟩
 clear hA0 hval0
 refine (walk a0 len0 cap0 z0 W w0).mono fun e W' ⟨he,bel⟩=>?_
 subst he
 exact ⟨_,rfl,_,_,_,[],_,[],hW',trodAll_mk1 (shut_bool Tryz.underlying4 _),(trodAll_cons_mk (Below.trod z0q (by kernel_rfl) (of_decide_eq_true (by kernel_rfl)) k0 bel lt0) trodAll_mk0),rfl,bel.frame _,fun h=>by cases h⟩
theorem over:Rows.fnSubmittedRow.holds Tryz.pinned (OpenSpec.ofChange Rows.fnSubmittedSpec) :=
 OpenClaim.holds_of_wide 4 Tryz.f4 rfl rfl rfl rfl rfl rfl rfl ⟨rfl,rfl,rfl,rfl,rfl⟩ rfl rfl rfl rfl rfl (by kernel_rfl) Tryz.func4 (by kernel_rfl)
  (of_decide_eq_true (by kernel_rfl)) (by unfold Func.isWrapper;first|(rw [if_pos (by decide +kernel)];kernel_rfl)|(rw [if_neg (by decide +kernel)];exact ⟨rfl,rfl⟩))
  (fun os started H enc _=>lifted os started H enc)
theorem proved:Rows.FnSubmittedSaid:=over
#print axioms proved
end Go.Proofs.YthiojkjcmhojoaaGreat.fnSubmitted
namespace Go.Proofs.YthiojkjcmhojoaaGreat
theorem fnSubmitted_holds:Rows.FnSubmittedSaid:=fnSubmitted.proved
#print axioms fnSubmitted_holds
end Go.Proofs.YthiojkjcmhojoaaGreat
