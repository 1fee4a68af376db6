import Derived.Test.YthiojkjcmhojoaaGreatGrpBP
import Derived.Test.YthiojkjcmhojoaaGreatGrpAJ
namespace Go.Proofs.YthiojkjcmhojoaaGreat
set_option maxHeartbeats 8000000
open Go.ChangeShapes Go.WideShapes Go.ChangeAt Go.RowKit
set_option maxRecDepth 100000
set_option linter.unusedVariables false
set_option linter.unusedSimpArgs false
theorem zlw {B:Nat} {a0:Option Addr} {len:Nat} (cap:Nat) {w:World} (hs:len≤4096) (row:Row B a0 len w) (hB:B≤w.heap.size) :
 Calls Tryz.prog 17 #[.slice a0 len cap] w (DE2 w):=by
 obtain ⟨v,hv⟩:∃v,v=w.alloc (.cells #[.int .i64 0,.slice none 0 0,.slice none 0 0,.slice none 0 0,.slice none 0 0,.slice none 0 0,.int .i64 0] 31):=⟨_,rfl⟩
 have nb:Below w.heap.size w v:=by rw [hv];exact zab _ _
 have lv:Lay v w.heap.size [.int .i64 0,.slice none 0 0,.slice none 0 0,.slice none 0 0,.slice none 0 0,.slice none 0 0,.int .i64 0]:=by rw [hv];exact zal [.int .i64 0,.slice none 0 0,.slice none 0 0,.slice none 0 0,.slice none 0 0,.slice none 0 0,.int .i64 0] _ rfl
 have zv:=lv.lt
 have bx:Below B w v:=nb.mono hB
 go_enter Tryz.func17,Tryz.ntmps17
 go_upto_region 1 with (fail)
 rw [←hv]
 clear hv
 go_upto_region 3 with (first|(go_at_call 33;refine (zzc cap hs (row.mono bx) (by omega)).mono ?_;rintro e w1 ⟨b,rfl,hb,k1,hb1⟩;have l1:=lv.next hb1;have bw1:=zaa nb hb1;have hbz:=k1.hi)|(go_at_call 34;refine (zlv k1).mono ?_;rintro e w2 ⟨E,rfl,eo,sm,hkn,k2,o2⟩))
 obtain ⟨q,hq⟩:∃q,w2.heap.size=q:=⟨_,rfl⟩
 obtain ⟨x,hx⟩:∃x,w2.alloc (.cells #[.int .i64 E.now,.slice E.aT E.T.length E.cT,.slice E.aO E.O.length E.cO,.slice E.aP E.P.length E.cP,.slice E.aL E.L.length E.cL,.slice E.aK E.K.length E.cK,.int .i64 E.nx] 31)=x:=⟨_,rfl⟩
 have D:Hid (E17 B a0 len cap b w x q E):=by
  show E17 B a0 len cap b w x q E
  rw [←hx]
  exact z0p hq bw1 l1 (by omega) hbz k2 o2 eo sm hkn
 rw [hx,hq]
 clear hx hq eo sm hkn k2 o2 l1 k1
 obtain ⟨t0,t1,t2,t3,t4,t5,t6⟩:=D.out.var.c7
 go_upto_region 4 with (first|(go_at_call 37;obtain ⟨lo',eq',hlo'⟩:=D.out.own;have eo':=eq'.own;refine (znj D.out.cur E eo' hlo' D.out.hk D.out.sm).mono ?_;rintro e u1 ⟨m1,rfl,kk,oo⟩;have DI:Hid (E17 B a0 len cap b w u1 q E):=D.out.draw oo kk;clear eq' eo' hlo' kk oo;clear t0 t1 t2 t3 t4 t5 t6;obtain ⟨t0,t1,t2,t3,t4,t5,t6⟩:=DI.out.var.c7))
 obtain ⟨f9,hf9⟩:∃f,zcl E.now E.nx E.T E.O E.P E.L E.K=f:=⟨_,rfl⟩
 have HB:Hid (zcl E.now E.nx E.T E.O E.P E.L E.K=f9):=hf9
 clear hf9
 go_cut [21] from 16 to 21 (fun s wd=>∃f:Bool,s=.bool f∧E17 B a0 len cap b w wd q E∧(f=true→zcl E.now E.nx E.T E.O E.P E.L E.K=true))
 case first =>
  go_wp2_with (first|(go_at_call 36;refine (zho _ DI.out.cur (Only.refl _ _) (by omega) (by omega)).mono ?_;rintro e u2 ⟨f3,rfl,kk,oo⟩;have DO:Hid (E17 B a0 len cap b w u2 q E):=DI.out.draw oo kk;clear kk oo;clear t0 t1 t2 t3 t4 t5 t6;obtain ⟨t0,t1,t2,t3,t4,t5,t6⟩:=DO.out.var.c7;cases f3)|(go_at_call 40;obtain ⟨rT,rO,rP,rL,rK⟩:=DO.out.rd;refine (zay _ _ _ _ _ HB.out rT rO rP rL rK (Nat.le_trans DO.out.sm.t (by decide)) (Nat.le_trans DO.out.sm.l (by decide)) (Nat.le_trans DO.out.sm.k (by decide)) (fun c hc=>Nat.le_trans (DO.out.sm.km c hc) (by decide))).mono ?_;rintro e u3 ⟨rfl,hb3⟩;have DQ:Hid (E17 B a0 len cap b w u3 q E):=DO.out.next hb3;clear rT rO rP rL rK;clear t0 t1 t2 t3 t4 t5 t6;obtain ⟨t0,t1,t2,t3,t4,t5,t6⟩:=DQ.out.var.c7;cases f9))
  ·go_meet
   exact ⟨_,rfl,DO.out,fun h=>by cases h⟩
  ·go_meet
   exact ⟨_,rfl,DQ.out,fun h=>by cases h⟩
  ·go_meet
   exact ⟨_,rfl,DQ.out,fun _=>HB.out⟩
 case rest =>
 clear D HB t0 t1 t2 t3 t4 t5 t6
 obtain ⟨f8,rfl,d,hb8⟩:=hcut
 have DQ:Hid (E17 B a0 len cap b w wc q E):=d
 have HB:Hid (f8=true→zcl E.now E.nx E.T E.O E.P E.L E.K=true):=hb8
 clear d hb8
 obtain ⟨u3,hu3⟩:∃u,u=wc:=⟨_,rfl⟩
 subst hu3
 obtain ⟨t0,t1,t2,t3,t4,t5,t6⟩:=DQ.out.var.c7
 go_upto_if 21 with (fail)
 go_cut [7,8] from 22 to 43 (fun s7 _ wd=>∃E x,s7=.int .i64 x∧E17 B a0 len cap b w wd q E)
 case first =>
  cases f8
  ·go_wp2
   go_meet
   exact ⟨E,_,rfl,DQ.out⟩
  ·have ok:=za8 (HB.out rfl)
   obtain ⟨gK,hak⟩:=DQ.out.first
   have hkl:1≤E.K.length:=List.length_pos_iff.2 DQ.out.hk
   have hkl':(0:Int)<(E.K.length:Int):=by omega
   have hx0:E.K[0].xs.length≤100:=zs8 (ok.con 0 (by omega))
   have HX:Hid (∃E':EgR,E'.aK=some ⟨gK,0,none⟩∧(∃h:0<E'.K.length,101+E'.K[0].xs.length=101+E.K[0].xs.length∧E'.K[0].xs.length≤100)∧Hid (E17 B a0 len cap b w u3 q E')):=⟨E,hak,⟨by omega,rfl,hx0⟩,DQ⟩
   obtain ⟨i0,hinf,hz0,hz1,hz2⟩:=info_parts zc7
   obtain ⟨n0,hn0⟩:∃n,E.K[0].xs.length=n:=⟨_,rfl⟩
   rw [hn0] at HX
   rw [hak] at t5
   clear hx0 ok HB
   go_upto_region 6 with (fail)
   clear t0 t1 t2 t3 t4 t5 t6 hkl hkl' hn0 hak
   go_wp2
   go_loopg [] 101 (fun kk wr=>∃E':EgR,E'.aK=some ⟨gK,0,none⟩∧(∃h:0<E'.K.length,kk+E'.K[0].xs.length=101+n0∧E'.K[0].xs.length≤100)∧Hid (E17 B a0 len cap b w wr q E'))
   case atStart=>exact HX.out
   case round =>
    clear HX DQ
    obtain ⟨E,hak,⟨hk0,hkk,hx100⟩,DW⟩:=hrel
    have HAK:Hid (E.aK=some ⟨gK,0,none⟩):=hak
    have HK0:Hid (0<E.K.length):=hk0
    obtain ⟨c0,⟨sa,sc,c13⟩,fz,hg⟩:=DW.out.at hak hk0
    have HG:Hid (b<gK∧gK<wr.heap.size∧gK≠q):=hg
    have C13:Hid (wr.cell? ⟨gK,0*14+13,none⟩=some (.slice sa E.K[0].xs.length sc)):=c13
    simp only [Nat.zero_mul,Nat.zero_add] at c0 c13 fz
    have HKK:Hid (gk+E.K[0].xs.length=101+n0):=hkk
    clear hkk hak
    by_cases hlt:E.K[0].xs.length<100
    ·have hlt':((E.K[0].xs.length:Nat):Int)<100:=by omega
     have DV:Hid (E17 B a0 len cap b w (wr.alloc (.cells #[.int .i64 7] 2)) q E):=DW.out.next (zab _ _)
     have hV:(wr.alloc (.cells #[.int .i64 7] 2)).cell? ⟨gK,0*14+13,none⟩=some (.slice sa E.K[0].xs.length sc):=((zab _ _).cell (p:=⟨gK,0*14+13,none⟩) (by show gK<wr.heap.size;have:=HG.out;omega)).trans C13.out
     go_wp2_with (first|(at_builtin;refine zh6 rfl _ _ 45 rfl 0 2 i0 _ Tryz.underlying45 hinf hz0 hz1 hz2 rfl _ E.K[0].xs rfl (DV.out.sizes HAK.out HK0.out hV) ⟨wr.heap.size,0,none⟩ 1 7 rfl (by go_simp) (by omega) (Nat.zero_le _) ?_;intro v' w6 own6 o6 hw6;obtain ⟨fa,fc,rfl⟩:=zas own6;obtain ⟨UU,k6,kf⟩:=DV.out.app HAK.out HK0.out hV own6 o6 hw6 (by omega);have UQ:Hid (E17 B a0 len cap b w (w6.setCell ⟨gK,0*14+13,none⟩ (.slice fa (E.K[0].xs.length+1) fc)) q { E with K:=E.K.set 0 (E.K[0].more 7) }):=UU;clear UU own6 o6 hw6))
     go_roundg (gk-1)
     case measure=>have:=HKK.out;omega
     case rel=>exact ⟨{ E with K:=E.K.set 0 (E.K[0].more 7) },HAK.out,⟨by rw [List.length_set];exact HK0.out,by rw [List.getElem_set_self];show _+(E.K[0].xs ++ [7]).length=_;rw [List.length_append];have:=HKK.out;simp;omega,by rw [List.getElem_set_self];show (E.K[0].xs ++ [7]).length≤100;rw [List.length_append];simp;omega⟩,UQ⟩
    ·have hlt':¬((E.K[0].xs.length:Nat):Int)<100:=by omega
     go_wp2
     go_meet
     exact ⟨E,_,rfl,DW.out⟩
 case rest =>
  clear DI HB DQ t0 t1 t2 t3 t4 t5 t6
  obtain ⟨E,x9,rfl,d⟩:=hcut
  have D:Hid (E17 B a0 len cap b w wc q E):=d
  clear d
  have HS:Hid (∀w',E17 B a0 len cap b w w' q E→w'.cell? ⟨q,0,none⟩=some (.int .i64 E.now)∧w'.cell? ⟨q,1,none⟩=some (.slice E.aT E.T.length E.cT)∧w'.cell? ⟨q,2,none⟩=some (.slice E.aO E.O.length E.cO)∧w'.cell? ⟨q,3,none⟩=some (.slice E.aP E.P.length E.cP)∧w'.cell? ⟨q,4,none⟩=some (.slice E.aL E.L.length E.cL)∧w'.cell? ⟨q,5,none⟩=some (.slice E.aK E.K.length E.cK)∧w'.cell? ⟨q,6,none⟩=some (.int .i64 E.nx)):=fun w' d=>d.var.c7
  have DR:Hid (E17 B a0 len cap b w wc.drew q E):=D.out.next (Below.refl _ _).drew
  go_upto_region 9 with (fail)
  refine zb4 HS DR.out fun hS=>?_
  refine zac 0 rfl ?_
  refine zac 1 rfl ?_
  refine zac 2 rfl ?_
  refine zcd 3 rfl fun Kr hKr=>?_
  go_simp
  (refine (znk DR.out.cur (Only.refl _ _)).mono ?_;rintro e u1 ⟨m1,rfl,kk,oo⟩;have DR:Hid (E17 B a0 len cap b w u1 q E):=DR.out.draw oo kk;have hS:=HS.out _ DR.out;obtain ⟨z0,z1,z2,z3,z4,z5,z6⟩:=DR.out.res.c7;have zf:=DR.out.res.free)
  refine hKr.out _ _ ‹_› fun _=>?_
  try simp only [nrm]
  refine zcd 4 rfl fun Kr hKr=>?_
  go_simp
  obtain ⟨u,hu',ou,U⟩:=st7 (b:=w.heap.size) DR.out.res (.int .i64 E.now) (.slice E.aT E.T.length E.cT) (.slice E.aO E.O.length E.cO) (.slice E.aP E.P.length E.cP) (.slice E.aL E.L.length E.cL) (.slice E.aK E.K.length E.cK) (.int .i64 E.nx)
  rw [hu']
  clear hu'
  have hrq:=DR.out.bq
  have hrb:=DR.out.rb
  have LU:=DR.out.var.only ou (by omega)
  refine hKr.out _ _ LU.c7 (fun hS=>?_)
  try simp only [nrm]
  refine zac 5 rfl ?_
  refine zac 6 rfl ?_
  refine wpAnyH_done (by kernel_rfl) ?_ _
  go_wp2
  have zu:=ou.size
  obtain ⟨fo,fb⟩:=DR.out.fin ou
  refine bodyPost_ret (zcs rfl _ _ _ _ rfl U.cell Tryz.underlying31 rfl (by kernel_rfl)) rfl ?_
  exact ⟨E,_,_,rfl,fo,DR.out.sm,DR.out.hk,fb⟩
end Go.Proofs.YthiojkjcmhojoaaGreat
