import Derived.Test.YthiojkjcmhojoaaGreatGrpBN
namespace Go.Proofs.YthiojkjcmhojoaaGreat
set_option maxHeartbeats 8000000
open Go.ChangeShapes Go.WideShapes Go.ChangeAt Go.RowKit
set_option maxRecDepth 100000
set_option linter.unusedVariables false
set_option linter.unusedSimpArgs false
theorem zl0 {B:Nat} {a0:Option Addr} {len:Nat} (cap:Nat) {w:World} (hs:len≤4096) (row:Row B a0 len w) (hB:B≤w.heap.size) :
 Calls Tryz.prog 26 #[.slice a0 len cap] w (DE2 w):=by
 obtain ⟨v,hv⟩:∃v,v=w.alloc (.cells #[.int .i64 0,.slice none 0 0,.slice none 0 0,.slice none 0 0,.slice none 0 0,.slice none 0 0,.int .i64 0] 31):=⟨_,rfl⟩
 have nb:Below w.heap.size w v:=by rw [hv];exact zab _ _
 have lv:Lay v w.heap.size [.int .i64 0,.slice none 0 0,.slice none 0 0,.slice none 0 0,.slice none 0 0,.slice none 0 0,.int .i64 0]:=by rw [hv];exact zal [.int .i64 0,.slice none 0 0,.slice none 0 0,.slice none 0 0,.slice none 0 0,.slice none 0 0,.int .i64 0] _ rfl
 have zv:=lv.lt
 have bx:Below B w v:=nb.mono hB
 go_enter Tryz.func26,Tryz.ntmps26
 go_upto_region 1 with (fail)
 rw [←hv]
 clear hv
 go_upto_region 3 with (first|(go_at_call 33;refine (zzj cap hs (row.mono bx) (by omega)).mono ?_;rintro e w1 ⟨b,rfl,hb,k1,hb1⟩;have l1:=lv.next hb1;have bw1:=zaa nb hb1;have hbz:=k1.hi)|(go_at_call 34;refine (zlz k1).mono ?_;rintro e w2 ⟨E,rfl,eo,sm,hkn,k2,o2⟩))
 obtain ⟨q,hq⟩:∃q,w2.heap.size=q:=⟨_,rfl⟩
 obtain ⟨x,hx⟩:∃x,w2.alloc (.cells #[.int .i64 E.now,.slice E.aT E.T.length E.cT,.slice E.aO E.O.length E.cO,.slice E.aP E.P.length E.cP,.slice E.aL E.L.length E.cL,.slice E.aK E.K.length E.cK,.int .i64 E.nx] 31)=x:=⟨_,rfl⟩
 have D:Hid (E17 B a0 len cap b w x q E):=by
  show E17 B a0 len cap b w x q E
  rw [←hx]
  exact z0x hq bw1 l1 (by omega) hbz k2 o2 eo sm hkn
 rw [hx,hq]
 clear hx hq eo sm hkn k2 o2 l1 k1
 obtain ⟨t0,t1,t2,t3,t4,t5,t6⟩:=D.out.var.c7
 go_upto_if 20 with (first|(go_at_call 37;obtain ⟨lo',eq',hlo'⟩:=D.out.own;have eo':=eq'.own;refine (znk D.out.cur E eo' hlo' D.out.hk D.out.sm).mono ?_;rintro e u1 ⟨m1,rfl,kk,oo⟩;have DI:Hid (E17 B a0 len cap b w u1 q E):=D.out.draw oo kk;clear eq' eo' hlo' kk oo;clear t0 t1 t2 t3 t4 t5 t6;obtain ⟨t0,t1,t2,t3,t4,t5,t6⟩:=DI.out.var.c7)|(go_at_call 35;refine (zaq _ DI.out.cur (Only.refl _ _) (by omega) (by omega)).mono ?_;rintro e u2 ⟨m2,rfl,hm2,kk,oo⟩;have DB:Hid (E17 B a0 len cap b w u2 q E):=DI.out.draw oo kk;have wm2:IntKind.i64.wrap (1+m2)=1+m2:=(by rw [IntKind.wrap_i64];omega);clear kk oo;clear t0 t1 t2 t3 t4 t5 t6;obtain ⟨t0,t1,t2,t3,t4,t5,t6⟩:=DB.out.var.c7)|(go_at_call 36;refine (zjx _ DB.out.cur (Only.refl _ _) (by omega) (by omega)).mono ?_;rintro e u3 ⟨f3,rfl,kk,oo⟩;have DO:Hid (E17 B a0 len cap b w u3 q E):=DB.out.draw oo kk;clear kk oo;clear t0 t1 t2 t3 t4 t5 t6;obtain ⟨t0,t1,t2,t3,t4,t5,t6⟩:=DO.out.var.c7))
 cases f3
 ·obtain ⟨z0,z1,z2,z3,z4,z5,z6⟩:=DO.out.res.c7;have zf:=DO.out.res.free
  go_wp2
  obtain ⟨u,hu',ou,U⟩:=st7 (b:=w.heap.size) DO.out.res (.int .i64 E.now) (.slice E.aT E.T.length E.cT) (.slice E.aO E.O.length E.cO) (.slice E.aP E.P.length E.cP) (.slice E.aL E.L.length E.cL) (.slice E.aK E.K.length E.cK) (.int .i64 E.nx)
  rw [hu']
  clear hu'
  obtain ⟨fo,fb⟩:=DO.out.fin ou
  refine bodyPost_ret (zco rfl _ _ _ _ rfl U.cell Tryz.underlying31 rfl (by kernel_rfl)) rfl ?_
  exact ⟨E,_,_,rfl,fo,DO.out.sm,DO.out.hk,fb⟩
 ·go_wp2_with (first|(go_at_call 38;refine (zxf _ _ DO.out.cur (Only.refl _ _) (by decide) (by decide) (by decide)).mono ?_;rintro e u4 ⟨m4,rfl,hm4,kk,oo⟩;have DF:Hid (E17 B a0 len cap b w u4 q E):=DO.out.draw oo kk;clear kk oo;clear t0 t1 t2 t3 t4 t5 t6;obtain ⟨t0,t1,t2,t3,t4,t5,t6⟩:=DF.out.var.c7;obtain ⟨z0,z1,z2,z3,z4,z5,z6⟩:=DF.out.res.c7;have zf:=DF.out.res.free))
  obtain ⟨u,hu',ou,U⟩:=st7 (b:=w.heap.size) DF.out.res (.int .i64 E.now) (.slice E.aT E.T.length E.cT) (.slice E.aO E.O.length E.cO) (.slice E.aP E.P.length E.cP) (.slice E.aL E.L.length E.cL) (.slice E.aK E.K.length E.cK) (.int .i64 E.nx)
  rw [hu']
  clear hu'
  obtain ⟨fo,fb⟩:=DF.out.fin ou
  refine bodyPost_ret (zco rfl _ _ _ _ rfl U.cell Tryz.underlying31 rfl (by kernel_rfl)) rfl ?_
  exact ⟨E,_,_,rfl,fo,DF.out.sm,DF.out.hk,fb⟩
end Go.Proofs.YthiojkjcmhojoaaGreat
