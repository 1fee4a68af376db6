import Derived.Test.YthiojkjcmhojoaaGreatGtAM
import Derived.Test.YthiojkjcmhojoaaGreatGtAXX1
namespace Go.Proofs.YthiojkjcmhojoaaGreat
set_option maxHeartbeats 8000000
open Go.ChangeShapes Go.WideShapes Go.ChangeAt Go.RowKit
set_option maxRecDepth 100000
set_option linter.all false
theorem zd5{wd fl:Int}{w:World}{a:Option Addr}(cap:Nat){xs:List Int}{f:Bool}(hf:plB wd fl xs=f)(smp:Iw w a xs):Calls Tryz.prog 96 #[.agg #[.int .i64 wd,.int .i64 fl,.slice a xs.length cap]] w fun e w'=>e=.returned (.bool f)/\Bw w w':=by subst hf;exact ze2 cap smp
theorem zn9{wd fl:Int}{xs:List Int}(h:plB wd fl xs=true):(3000<=wd/\wd<=1000000000)/\(0<=fl/\fl<=1000000000)/\xs.length<=50:=by obtain⟨h1,h2,h3,_⟩:=zl6 h;unfold zgr at h1;unfold ze7 at h2;simp only[bae,decide_eq_true_eq]at h1 h2;exact⟨h1,h2,h3⟩
theorem zsp{n:Int}(h:zzi n=true):1<=n/\n<=1500:=by unfold zzi at h;simp only[bae,decide_eq_true_eq]at h;exact h
noncomputable def za0(wd fl n:Int)(xs:List Int):Bool:=(plB wd fl xs && zzi n) && decide (fl+n<=wd)
section
variable{wd fl n:Int}{w:World}{a:Option Addr}(cap:Nat){xs:List Int}
theorem zg4(smp:Iw w a xs):Calls Tryz.prog 194 #[.agg #[.int .i64 wd,.int .i64 fl,.slice a xs.length cap],.int .i64 n] w fun e w'=>e=.returned (.bool (za0 wd fl n xs))/\Bw w w':=by
 cases hp:plB wd fl xs
 ·rw[show za0 wd fl n xs=false by unfold za0;rw[hp];rfl];go_enter Tryz.func194,Tryz.ntmps194;go_wp2_with (first| (go_at_call 96;refine (zd5 cap hp (smp.here (by go_grown))).mono ?_;rintro e w3 ⟨rfl,hbw3⟩;have hbw:Bw w w3:=zaa (by go_grown) hbw3;have kc:=zbm hbw3;have kf:=zb4 hbw3;have zl:=hbw3.size;(try simp at zl);have p0:w3.cell? ⟨w.heap.size,0,none⟩=some (.int .i64 wd):=(kc _ _ (by simp;try omega)).trans (by go_simp);have p1:w3.cell? ⟨w.heap.size,1,none⟩=some (.int .i64 fl):=(kc _ _ (by simp;try omega)).trans (by go_simp);have p2:w3.cell? ⟨w.heap.size,2,none⟩=some (.slice a xs.length cap):=(kc _ _ (by simp;try omega)).trans (by go_simp);clear kc kf));go_ret;exact⟨rfl,hbw⟩
 cases hn:zzi n
 ·rw[show za0 wd fl n xs=false by unfold za0;rw[hp,hn];rfl];go_enter Tryz.func194,Tryz.ntmps194;go_wp2_with (first| (go_at_call 96;refine (zd5 cap hp (smp.here (by go_grown))).mono ?_;rintro e w3 ⟨rfl,hbw3⟩;have hbw:Bw w w3:=zaa (by go_grown) hbw3;have kc:=zbm hbw3;have kf:=zb4 hbw3;have zl:=hbw3.size;(try simp at zl);have p0:w3.cell? ⟨w.heap.size,0,none⟩=some (.int .i64 wd):=(kc _ _ (by simp;try omega)).trans (by go_simp);have p1:w3.cell? ⟨w.heap.size,1,none⟩=some (.int .i64 fl):=(kc _ _ (by simp;try omega)).trans (by go_simp);have p2:w3.cell? ⟨w.heap.size,2,none⟩=some (.slice a xs.length cap):=(kc _ _ (by simp;try omega)).trans (by go_simp);clear kc kf)| (go_at_call 71;refine same1 (zw6 hn _) ?_));go_ret;exact⟨rfl,hbw⟩
 obtain⟨⟨q1,q2⟩,⟨q3,q4⟩,q5⟩:=zn9 hp;obtain⟨q6,q7⟩:=zsp hn;have r1:IntKind.i64.wrap (fl+n)=fl+n:=i64w
 rw[show za0 wd fl n xs=decide (fl+n<=wd) by unfold za0;rw[hp,hn];rfl];go_enter Tryz.func194,Tryz.ntmps194;go_wp2_with (first| (go_at_call 96;refine (zd5 cap hp (smp.here (by go_grown))).mono ?_;rintro e w3 ⟨rfl,hbw3⟩;have hbw:Bw w w3:=zaa (by go_grown) hbw3;have kc:=zbm hbw3;have kf:=zb4 hbw3;have zl:=hbw3.size;(try simp at zl);have p0:w3.cell? ⟨w.heap.size,0,none⟩=some (.int .i64 wd):=(kc _ _ (by simp;try omega)).trans (by go_simp);have p1:w3.cell? ⟨w.heap.size,1,none⟩=some (.int .i64 fl):=(kc _ _ (by simp;try omega)).trans (by go_simp);have p2:w3.cell? ⟨w.heap.size,2,none⟩=some (.slice a xs.length cap):=(kc _ _ (by simp;try omega)).trans (by go_simp);clear kc kf)| (go_at_call 71;refine same1 (zw6 hn _) ?_));go_ret;exact⟨rfl,hbw⟩
theorem zsq{f:Bool}(hf:za0 wd fl n xs=f)(smp:Iw w a xs):Calls Tryz.prog 194 #[.agg #[.int .i64 wd,.int .i64 fl,.slice a xs.length cap],.int .i64 n] w fun e w'=>e=.returned (.bool f)/\Bw w w':=by subst hf;exact zg4 cap smp
end
def AnsP(w:World)(xs:List Int)(wd fl:Int)(e:Ending)(w':World):Prop:=∃a n c,e=.returned (.agg #[.int .i64 wd,.int .i64 fl,.slice a n c])/\IV w' w.heap.size (.slice a n c) xs/\Bw w w'
theorem zmh{wd fl:Int}{w:World}{a:Option Addr}(cap:Nat){xs:List Int}(hl:xs.length<=1048576)(smp:Iw w a xs):Calls Tryz.prog 117 #[.agg #[.int .i64 wd,.int .i64 fl,.slice a xs.length cap]] w (AnsP w xs wd fl):=by
 obtain⟨i0,hi,hz0,hz1,hz2⟩:=info_parts zeo;go_enter Tryz.func117,Tryz.ntmps117;go_upto_region 1 with (fail);obtain⟨x,hx⟩:∃x,x=(w.alloc (.cells #[.int .i64 wd,.int .i64 fl,.slice a xs.length cap] 50)).alloc (.cells #[.int .i64 0,.int .i64 0,.slice none 0 0] 50):=⟨_,rfl⟩;rw[<-hx];have hbw:Bw w x:=by rw[hx];go_grown
 have zl:w.heap.size+1+1<=x.heap.size:=by rw[hx];simp
 have p0:x.cell? ⟨w.heap.size,0,none⟩=some (.int .i64 wd):=by rw[hx];go_simp
 have p1:x.cell? ⟨w.heap.size,1,none⟩=some (.int .i64 fl):=by rw[hx];go_simp
 have p2:x.cell? ⟨w.heap.size,2,none⟩=some (.slice a xs.length cap):=by rw[hx];go_simp
 have v0:x.cell? ⟨w.heap.size+1,0,none⟩=some (.int .i64 0):=by rw[hx];go_simp
 have v1:x.cell? ⟨w.heap.size+1,1,none⟩=some (.int .i64 0):=by rw[hx];go_simp
 have v2:x.cell? ⟨w.heap.size+1,2,none⟩=some (.slice none 0 0):=by rw[hx];go_simp
 have pz:∀o:Nat,x.frozen? ⟨w.heap.size,o,none⟩=false:=fun o=>by rw[hx];go_simp
 have vz:∀o:Nat,x.frozen? ⟨w.heap.size+1,o,none⟩=false:=fun o=>by rw[hx];go_simp
 clear hx;have HSM:Hid (ISmp w.heap.size (x.alloc (.cells #[] 2)) a xs):=(smp.mono hbw).mono ((zad x _).mono (by omega));have n0:x.heap.size≠w.heap.size:=by omega
 have n1:w.heap.size≠x.heap.size:=by omega
 have n2:w.heap.size<x.heap.size:=by omega
 go_upto_region 2 with (first| (at_builtin;refine zd0 (by rfl) _ _ 45 rfl x.heap.size 2 i0 _ Tryz.underlying45 hi hz0 hz1 hz2 rfl _ 0 [] rfl (zd7 x _ _ rfl (nrf _) _) a cap w.heap.size xs rfl HSM.out (by omega) (by simp) ?_;intro v' w3 own3 gr3;have hb3:Bw x w3:=((brf _ x).alloc (nrf _) _).grown gr3 (by simp) (fun k hk=>Nat.le_of_eq (osi hk));rw[Nat.zero_add,List.nil_append]at own3;obtain⟨va,ca,rfl⟩:=za2 own3;have hbw:Bw w w3:=zaa hbw hb3;have p0:=bct hb3 (by omega) p0;have p1:=bct hb3 (by omega) p1;have p2:=bct hb3 (by omega) p2;have v0:=bct hb3 (by omega) v0;have v1:=bct hb3 (by omega) v1;have v2:=bct hb3 (by omega) v2;have vz:∀o:Nat,w3.frozen? ⟨w.heap.size+1,o,none⟩=false:=fun o=>(hb3.frozen (p:=⟨w.heap.size+1,o,none⟩) (by show w.heap.size+1<_;omega)).trans (vz o);have zl:w.heap.size+1+1<=w3.heap.size:=ntr zl hb3.size;have pz:∀o:Nat,w3.frozen? ⟨w.heap.size,o,none⟩=false:=(fun o=>(hb3.frozen (p:=⟨w.heap.size,o,none⟩) (by show w.heap.size<_;omega)).trans (pz o))));have iv:IV w3 x.heap.size (.slice va xs.length ca) xs:=zde own3;obtain⟨x4,hx4⟩:∃y,y=w3.setCell ⟨w.heap.size,2,none⟩ (.slice va xs.length ca):=⟨_,rfl⟩;rw[<-hx4];have oX:Only w.heap.size w3 x4:=by rw[hx4];exact (Only.refl _ w3).setCell (p:=⟨w.heap.size,2,none⟩) rfl _
 have p0:x4.cell? ⟨w.heap.size,0,none⟩=some (.int .i64 wd):=by rw[hx4];exact (zab (by decide)).trans p0
 have p1:x4.cell? ⟨w.heap.size,1,none⟩=some (.int .i64 fl):=by rw[hx4];exact (zab (by decide)).trans p1
 have p2:x4.cell? ⟨w.heap.size,2,none⟩=some (.slice va xs.length ca):=by rw[hx4];exact zbh _ p2
 have v0:x4.cell? ⟨w.heap.size+1,0,none⟩=some (.int .i64 0):=(oX.cell (by show w.heap.size+1<_;omega) (by show w.heap.size+1≠_;omega)).trans v0;have v1:x4.cell? ⟨w.heap.size+1,1,none⟩=some (.int .i64 0):=(oX.cell (by show w.heap.size+1<_;omega) (by show w.heap.size+1≠_;omega)).trans v1;have v2:x4.cell? ⟨w.heap.size+1,2,none⟩=some (.slice none 0 0):=(oX.cell (by show w.heap.size+1<_;omega) (by show w.heap.size+1≠_;omega)).trans v2;have vz:∀o:Nat,x4.frozen? ⟨w.heap.size+1,o,none⟩=false:=fun o=>(oX.frozen (by show w.heap.size+1<_;omega) (by show w.heap.size+1≠_;omega)).trans (vz o);have iv:IV x4 x.heap.size (.slice va xs.length ca) xs:=iv.onlyO (OnlyO.of_only oX) (fun g hg e=>by have:=(iv.own hg).1;injection e with e;omega);have hbw:Bw w x4:=hbw.trans (oX.below (nrf _) (by omega));have zl:w.heap.size+1+1<=x4.heap.size:=ntr zl oX.size;clear hx4 oX own3 gr3 HSM;go_wp2;obtain⟨y,ey,cs,fzy,sz,hbel,hon⟩:=zi8 (.int .i64 wd) (.int .i64 fl) (.slice va xs.length ca) (w:=x4) (g:=w.heap.size+1) v0 v1 v2;rw[<-ey];refine bodyPost_ret (zaf rfl _ _ _ [.int .i64 wd,.int .i64 fl,.slice va xs.length ca] rfl cs Tryz.underlying50 rfl (by kernel_rfl)) rfl ?_;exact⟨va,xs.length,ca,rfl,(iv.onlyO (OnlyO.of_only hon) (fun g hg e=>by have:=(iv.own hg).1;injection e with e;omega)).lower (by omega),hbw.trans (hbel _ (by omega))⟩
def AnsPT(w:World)(xs:List Int)(wd fl:Int)(f:Bool)(e:Ending)(w':World):Prop:=∃a n c,e=.returned (.tuple #[.agg #[.int .i64 wd,.int .i64 fl,.slice a n c],.bool f])/\IV w' w.heap.size (.slice a n c) xs/\Bw w w'
theorem zur{wd fl n:Int}{xs:List Int}(h:za0 wd fl n xs=true):plB wd fl xs=true/\zzi n=true/\fl+n<=wd:=by unfold za0 at h;simp only[bae,decide_eq_true_eq]at h;exact⟨h.1.1,h.1.2,h.2⟩
theorem zo5{wd fl n:Int}{w:World}{a:Option Addr}(cap:Nat){xs:List Int}(hr:za0 wd fl n xs=true)(smp:Iw w a xs):Calls Tryz.prog 174 #[.agg #[.int .i64 wd,.int .i64 fl,.slice a xs.length cap],.int .i64 n] w (AnsPT w xs wd (fl+n) true):=by
 obtain⟨hp,hn,hle⟩:=zur hr;obtain⟨⟨q1,q2⟩,⟨q3,q4⟩,q5⟩:=zn9 hp;obtain⟨q6,q7⟩:=zsp hn;have r1:IntKind.i64.wrap (fl+n)=fl+n:=i64w
 go_enter Tryz.func174,Tryz.ntmps174;go_upto_region 4 with (first| (go_at_call 194;refine (zsq cap hr (smp.here (by go_grown))).mono ?_;rintro e w3 ⟨rfl,hbw3⟩;have hbw:Bw w w3:=zaa (by go_grown) hbw3;have kc:=zbm hbw3;have kf:=zb4 hbw3;have zl:=hbw3.size;(try simp at zl);have p0:w3.cell? ⟨w.heap.size,0,none⟩=some (.int .i64 wd):=(kc _ _ (by simp;try omega)).trans (by go_simp);have p1:w3.cell? ⟨w.heap.size,1,none⟩=some (.int .i64 fl):=(kc _ _ (by simp;try omega)).trans (by go_simp);have p2:w3.cell? ⟨w.heap.size,2,none⟩=some (.slice a xs.length cap):=(kc _ _ (by simp;try omega)).trans (by go_simp);have v0:w3.cell? ⟨w.heap.size+1,0,none⟩=some (.int .i64 0):=(kc _ _ (by simp;try omega)).trans (by go_simp);have v1:w3.cell? ⟨w.heap.size+1,1,none⟩=some (.int .i64 0):=(kc _ _ (by simp;try omega)).trans (by go_simp);have v2:w3.cell? ⟨w.heap.size+1,2,none⟩=some (.slice none 0 0):=(kc _ _ (by simp;try omega)).trans (by go_simp);have vz:∀o:Nat,w3.frozen? ⟨w.heap.size+1,o,none⟩=false:=(fun o=>(kf _ _ (by simp;try omega)).trans (by go_simp));clear kc kf)| (go_at_call 117;refine (zmh cap (by omega) (smp.here hbw)).mono ?_;rintro e w5 ⟨a5,n5,c5,rfl,iv5,hb5⟩;have z3:=zl;have hbw:Bw w w5:=zaa hbw hb5;have p0:=bct hb5 (by omega) p0;have p1:=bct hb5 (by omega) p1;have p2:=bct hb5 (by omega) p2;have v0:=bct hb5 (by omega) v0;have v1:=bct hb5 (by omega) v1;have v2:=bct hb5 (by omega) v2;have vz:∀o:Nat,w5.frozen? ⟨w.heap.size+1,o,none⟩=false:=fun o=>(hb5.frozen (p:=⟨w.heap.size+1,o,none⟩) (by show w.heap.size+1<_;omega)).trans (vz o);have zl:w.heap.size+1+1<=w5.heap.size:=ntr zl hb5.size));obtain⟨x6,hx6⟩:∃x,x=w5.alloc (.cells #[.int .i64 wd,.int .i64 fl,.slice a5 n5 c5] 50):=⟨_,rfl⟩;obtain⟨q,hq⟩:∃b,b=w5.heap.size:=⟨_,rfl⟩;rw[<-hx6,<-hq];have hb6:Bw w5 x6:=by rw[hx6];exact zad _ _
 have q0:x6.cell? ⟨q,0,none⟩=some (.int .i64 wd):=by rw[hx6,hq];go_simp
 have q1:x6.cell? ⟨q,1,none⟩=some (.int .i64 fl):=by rw[hx6,hq];go_simp
 have q2:x6.cell? ⟨q,2,none⟩=some (.slice a5 n5 c5):=by rw[hx6,hq];go_simp
 have qz:∀o:Nat,x6.frozen? ⟨q,o,none⟩=false:=fun o=>by rw[hx6,hq];go_simp
 have yq:w5.heap.size<=q:=by omega
 have uq:q<x6.heap.size:=by rw[hx6,hq];simp
 have iv6:=iv5.next hb6;have og6:∀g,(Value.slice a5 n5 c5).ownBlock=some g->w.heap.size+1<g/\g<q:=fun g hg=>by have:=iv5.own hg;omega
 have hbw:Bw w x6:=zaa hbw hb6;have p0:=bct hb6 (by omega) p0;have p1:=bct hb6 (by omega) p1;have p2:=bct hb6 (by omega) p2;have v0:=bct hb6 (by omega) v0;have v1:=bct hb6 (by omega) v1;have v2:=bct hb6 (by omega) v2;have vz:∀o:Nat,x6.frozen? ⟨w.heap.size+1,o,none⟩=false:=fun o=>(hb6.frozen (p:=⟨w.heap.size+1,o,none⟩) (by show w.heap.size+1<_;omega)).trans (vz o);have zl:w.heap.size+1+1<=x6.heap.size:=ntr zl hb6.size;clear hx6 hq;go_upto_region 5 with (fail);obtain⟨x7,hx7⟩:∃x,x=(x6.setCell ⟨q,1,none⟩ (.int .i64 (fl+n))):=⟨_,rfl⟩;rw[<-hx7];have oX:Only q x6 x7:=by rw[hx7];exact ((Only.refl _ x6).setCell (p:=⟨q,1,none⟩) rfl _)
 have q0:x7.cell? ⟨q,0,none⟩=some (.int .i64 wd):=by rw[hx7];exact (zab (by decide)).trans q0
 have q1:x7.cell? ⟨q,1,none⟩=some (.int .i64 (fl+n)):=by rw[hx7];exact zbh _ q1
 have q2:x7.cell? ⟨q,2,none⟩=some (.slice a5 n5 c5):=by rw[hx7];exact (zab (by decide)).trans q2
 have qz:∀o:Nat,x7.frozen? ⟨q,o,none⟩=false:=fun o=>by rw[hx7];simpa using qz o
 have p0:=(oX.cell (p:=⟨w.heap.size,0,none⟩) (by show w.heap.size<_;omega) (by show w.heap.size≠q;omega)).trans p0;have p1:=(oX.cell (p:=⟨w.heap.size,1,none⟩) (by show w.heap.size<_;omega) (by show w.heap.size≠q;omega)).trans p1;have p2:=(oX.cell (p:=⟨w.heap.size,2,none⟩) (by show w.heap.size<_;omega) (by show w.heap.size≠q;omega)).trans p2;have v0:=(oX.cell (p:=⟨w.heap.size+1,0,none⟩) (by show w.heap.size+1<_;omega) (by show w.heap.size+1≠q;omega)).trans v0;have v1:=(oX.cell (p:=⟨w.heap.size+1,1,none⟩) (by show w.heap.size+1<_;omega) (by show w.heap.size+1≠q;omega)).trans v1;have v2:=(oX.cell (p:=⟨w.heap.size+1,2,none⟩) (by show w.heap.size+1<_;omega) (by show w.heap.size+1≠q;omega)).trans v2;have vz:∀o:Nat,x7.frozen? ⟨w.heap.size+1,o,none⟩=false:=fun o=>(oX.frozen (p:=⟨w.heap.size+1,o,none⟩) (by show w.heap.size+1<_;omega) (by show w.heap.size+1≠q;omega)).trans (vz o);have hbw:Bw w x7:=hbw.trans (oX.below (by omega) (by omega));have iv7:=iv6.onlyO (OnlyO.of_only oX) (fun g hg e=>by have:=og6 g hg;injection e with e;omega);have zl:=ntr zl oX.size;have uq:=nlt uq oX.size;clear hx7 oX;go_wp2;obtain⟨y,ey,cs,fzy,sz,hbel,hon⟩:=zi8 (.int .i64 wd) (.int .i64 (fl+n)) (.slice a5 n5 c5) (g:=w.heap.size+1) v0 v1 v2;rw[<-ey];refine bodyPost_ret (zah rfl _ _ _ [.int .i64 wd,.int .i64 (fl+n),.slice a5 n5 c5] rfl cs Tryz.underlying50 rfl (by kernel_rfl)) rfl ?_;exact⟨_,_,_,rfl,(iv7.onlyO (OnlyO.of_only hon) (fun g hg e=>by have:=(iv7.own hg).1;injection e with e;omega)).lower (by omega),hbw.trans (hbel _ (by omega))⟩
def zcu(wd n:Int)(lost:Bool):Int:=if lost=true then max 3000 (wd/2) else min 1000000000 (wd+n*1500/wd)
theorem zo6{lo x hi:Int}(h:inQ lo x hi=true):lo<=x/\x<=hi:=by unfold inQ at h;simp only[bae,decide_eq_true_eq]at h;exact h
theorem zfe{wd fl n:Int}{lost:Bool}{w:World}{a:Option Addr}(cap:Nat){xs:List Int}(hp:plB wd fl xs=true)(hn:inQ 1 n 1000000000=true)(smp:Iw w a xs):Calls Tryz.prog 77 #[.agg #[.int .i64 wd,.int .i64 fl,.slice a xs.length cap],.int .i64 n,.bool lost] w (AnsP w xs (zcu wd n lost) (max 0 (fl-n))):=by
 obtain⟨⟨q1',q2'⟩,⟨q3',q4'⟩,q5'⟩:=zn9 hp;obtain⟨q6',q7'⟩:=zo6 hn;have r1:IntKind.i64.wrap (fl-n)=fl-n:=i64w
 obtain⟨f1,hf1⟩:∃z,max 0 (fl-n)=z:=⟨_,rfl⟩;obtain⟨w1,hw1⟩:∃z,zcu wd n lost=z:=⟨_,rfl⟩;rw[hf1,hw1];go_enter Tryz.func77,Tryz.ntmps77;go_upto_region 4 with (first| (go_at_call 96;refine (zd5 cap hp (smp.here (by go_grown))).mono ?_;rintro e w3 ⟨rfl,hbw3⟩;have hbw:Bw w w3:=zaa (by go_grown) hbw3;have kc:=zbm hbw3;have kf:=zb4 hbw3;have zl:=hbw3.size;(try simp at zl);have p0:w3.cell? ⟨w.heap.size,0,none⟩=some (.int .i64 wd):=(kc _ _ (by simp;try omega)).trans (by go_simp);have p1:w3.cell? ⟨w.heap.size,1,none⟩=some (.int .i64 fl):=(kc _ _ (by simp;try omega)).trans (by go_simp);have p2:w3.cell? ⟨w.heap.size,2,none⟩=some (.slice a xs.length cap):=(kc _ _ (by simp;try omega)).trans (by go_simp);have v0:w3.cell? ⟨w.heap.size+1,0,none⟩=some (.int .i64 0):=(kc _ _ (by simp;try omega)).trans (by go_simp);have v1:w3.cell? ⟨w.heap.size+1,1,none⟩=some (.int .i64 0):=(kc _ _ (by simp;try omega)).trans (by go_simp);have v2:w3.cell? ⟨w.heap.size+1,2,none⟩=some (.slice none 0 0):=(kc _ _ (by simp;try omega)).trans (by go_simp);have vz:∀o:Nat,w3.frozen? ⟨w.heap.size+1,o,none⟩=false:=(fun o=>(kf _ _ (by simp;try omega)).trans (by go_simp));clear kc kf)| (go_at_call 48;refine same1 (zbz hn _) ?_)| (go_at_call 117;refine (zmh cap (by omega) (smp.here hbw)).mono ?_;rintro e w5 ⟨a5,n5,c5,rfl,iv5,hb5⟩;have z3:=zl;have hbw:Bw w w5:=zaa hbw hb5;have p0:=bct hb5 (by omega) p0;have p1:=bct hb5 (by omega) p1;have p2:=bct hb5 (by omega) p2;have v0:=bct hb5 (by omega) v0;have v1:=bct hb5 (by omega) v1;have v2:=bct hb5 (by omega) v2;have vz:∀o:Nat,w5.frozen? ⟨w.heap.size+1,o,none⟩=false:=fun o=>(hb5.frozen (p:=⟨w.heap.size+1,o,none⟩) (by show w.heap.size+1<_;omega)).trans (vz o);have zl:w.heap.size+1+1<=w5.heap.size:=ntr zl hb5.size));obtain⟨x6,hx6⟩:∃x,x=w5.alloc (.cells #[.int .i64 wd,.int .i64 fl,.slice a5 n5 c5] 50):=⟨_,rfl⟩;obtain⟨q,hq⟩:∃b,b=w5.heap.size:=⟨_,rfl⟩;rw[<-hx6,<-hq];have hb6:Bw w5 x6:=by rw[hx6];exact zad _ _
 have q0:x6.cell? ⟨q,0,none⟩=some (.int .i64 wd):=by rw[hx6,hq];go_simp
 have q1:x6.cell? ⟨q,1,none⟩=some (.int .i64 fl):=by rw[hx6,hq];go_simp
 have q2:x6.cell? ⟨q,2,none⟩=some (.slice a5 n5 c5):=by rw[hx6,hq];go_simp
 have qz:∀o:Nat,x6.frozen? ⟨q,o,none⟩=false:=fun o=>by rw[hx6,hq];go_simp
 have yq:w5.heap.size<=q:=by omega
 have uq:q<x6.heap.size:=by rw[hx6,hq];simp
 have iv6:=iv5.next hb6;have og6:∀g,(Value.slice a5 n5 c5).ownBlock=some g->w.heap.size+1<g/\g<q:=fun g hg=>by have:=iv5.own hg;omega
 have hbw:Bw w x6:=zaa hbw hb6;have p0:=bct hb6 (by omega) p0;have p1:=bct hb6 (by omega) p1;have p2:=bct hb6 (by omega) p2;have v0:=bct hb6 (by omega) v0;have v1:=bct hb6 (by omega) v1;have v2:=bct hb6 (by omega) v2;have vz:∀o:Nat,x6.frozen? ⟨w.heap.size+1,o,none⟩=false:=fun o=>(hb6.frozen (p:=⟨w.heap.size+1,o,none⟩) (by show w.heap.size+1<_;omega)).trans (vz o);have zl:w.heap.size+1+1<=x6.heap.size:=ntr zl hb6.size;clear hx6 hq;go_upto_region 5 with (first| (go_at_call 83;refine (zay 0 (fl-n) _).mono ?_;rintro e wM ⟨rfl,hM⟩;have hM:=hM.symm;subst hM;rw[hf1]));obtain⟨x7,hx7⟩:∃x,x=(x6.setCell ⟨q,1,none⟩ (.int .i64 f1)):=⟨_,rfl⟩;rw[<-hx7];have oX:Only q x6 x7:=by rw[hx7];exact ((Only.refl _ x6).setCell (p:=⟨q,1,none⟩) rfl _)
 have q0:x7.cell? ⟨q,0,none⟩=some (.int .i64 wd):=by rw[hx7];exact (zab (by decide)).trans q0
 have q1:x7.cell? ⟨q,1,none⟩=some (.int .i64 f1):=by rw[hx7];exact zbh _ q1
 have q2:x7.cell? ⟨q,2,none⟩=some (.slice a5 n5 c5):=by rw[hx7];exact (zab (by decide)).trans q2
 have qz:∀o:Nat,x7.frozen? ⟨q,o,none⟩=false:=fun o=>by rw[hx7];simpa using qz o
 have p0:=(oX.cell (p:=⟨w.heap.size,0,none⟩) (by show w.heap.size<_;omega) (by show w.heap.size≠q;omega)).trans p0;have p1:=(oX.cell (p:=⟨w.heap.size,1,none⟩) (by show w.heap.size<_;omega) (by show w.heap.size≠q;omega)).trans p1;have p2:=(oX.cell (p:=⟨w.heap.size,2,none⟩) (by show w.heap.size<_;omega) (by show w.heap.size≠q;omega)).trans p2;have v0:=(oX.cell (p:=⟨w.heap.size+1,0,none⟩) (by show w.heap.size+1<_;omega) (by show w.heap.size+1≠q;omega)).trans v0;have v1:=(oX.cell (p:=⟨w.heap.size+1,1,none⟩) (by show w.heap.size+1<_;omega) (by show w.heap.size+1≠q;omega)).trans v1;have v2:=(oX.cell (p:=⟨w.heap.size+1,2,none⟩) (by show w.heap.size+1<_;omega) (by show w.heap.size+1≠q;omega)).trans v2;have vz:∀o:Nat,x7.frozen? ⟨w.heap.size+1,o,none⟩=false:=fun o=>(oX.frozen (p:=⟨w.heap.size+1,o,none⟩) (by show w.heap.size+1<_;omega) (by show w.heap.size+1≠q;omega)).trans (vz o);have hbw:Bw w x7:=hbw.trans (oX.below (by omega) (by omega));have iv7:=iv6.onlyO (OnlyO.of_only oX) (fun g hg e=>by have:=og6 g hg;injection e with e;omega);have zl:=ntr zl oX.size;have uq:=nlt uq oX.size;clear hx7 oX;cases lost
 ·have hw1:min 1000000000 (wd+n*1500/wd)=w1:=hw1;have p0':0<=n*1500:=(by omega);have ed:=zb9 (x:=n*1500) p0' wd;have rw1:IntKind.i64.wrap (n*1500)=n*1500:=i64w;have dv:0<=n*1500/wd/\n*1500/wd<=n*1500:=⟨Int.ediv_nonneg (by omega) (by omega),Int.ediv_le_self _ (by omega)⟩;obtain⟨dz,hdz⟩:∃z,n*1500/wd=z:=⟨_,rfl⟩;rw[hdz]at ed dv hw1;have rw2:IntKind.i64.wrap dz=dz:=i64w;have rw3:IntKind.i64.wrap (wd+dz)=wd+dz:=i64w;have wz:¬wd=0:=(by omega);have wz':(wd == 0)=false:=beq_eq_false_iff_ne.2 wz;have HM:Hid (∀w:World,Calls Tryz.prog 84 #[.int .i64 1000000000,.int .i64 (wd+dz)] w fun e w'=>e=.returned (.int .i64 w1)/\w'=w):=fun w=>(by rw[<-hw1];exact zbg 1000000000 (wd+dz) w);clear hdz hw1;go_upto_region 7 with (fail);have hS0:(fun w'=>w'.cell? ⟨w.heap.size,0,none⟩=some (.int .i64 wd)/\w'.cell? ⟨w.heap.size,1,none⟩=some (.int .i64 fl)/\w'.cell? ⟨w.heap.size,2,none⟩=some (.slice a xs.length cap)) x7.drew:=⟨(by simpa using p0),(by simpa using p1),(by simpa using p2)⟩;have D7:Bw x7 x7.drew:=(brf _ _).drew;refine za4 (S:=fun w'=>w'.cell? ⟨w.heap.size,0,none⟩=some (.int .i64 wd)/\w'.cell? ⟨w.heap.size,1,none⟩=some (.int .i64 fl)/\w'.cell? ⟨w.heap.size,2,none⟩=some (.slice a xs.length cap)) 10 (by kernel_rfl) hS0 (fun hS=>?_);refine zae 0 rfl ?_;refine zae 1 rfl ?_;refine zae 2 rfl ?_;refine zae 3 rfl ?_;refine zae 4 rfl ?_;refine zae 5 rfl ?_;refine zae 6 rfl ?_;refine zae 7 rfl ?_;refine zaj (i:=8) (by kernel_rfl) rfl (fun K hK=>?_);go_simp;refine (HM.out _).mono ?_;rintro e wM ⟨rfl,hM⟩;have hM:=hM.symm;subst hM;have hS:=hS0;refine hK.out _ _ ‹_› fun _=>?_;(try simp only[nrm]);refine zaj (i:=9) (by kernel_rfl) rfl (fun K hK=>?_);go_simp;refine hK.out _ _ ‹_› fun _=>?_;(try simp only[nrm]);refine zat (by kernel_rfl) rfl (by kernel_rfl) (fun K hK=>?_);go_simp;refine hK.out _ _ ?_;(try simp only[nrm]);obtain⟨x8,hx7⟩:∃x,x=(x7.setCell ⟨q,0,none⟩ (.int .i64 w1)).drew:=⟨_,rfl⟩;rw[<-hx7];have oX:Only q x7 x8:=(by rw[hx7];exact ((Only.refl _ x7).setCell (p:=⟨q,0,none⟩) rfl _).trans (Only.of_below (brf _ _).drew));have q0:x8.cell? ⟨q,0,none⟩=some (.int .i64 w1):=(by rw[hx7];simp only[World.cell?_drew];exact zbh _ q0);have q1:x8.cell? ⟨q,1,none⟩=some (.int .i64 f1):=(by rw[hx7];simp only[World.cell?_drew];exact (zab (by decide)).trans q1);have q2:x8.cell? ⟨q,2,none⟩=some (.slice a5 n5 c5):=(by rw[hx7];simp only[World.cell?_drew];exact (zab (by decide)).trans q2);have qz:∀o:Nat,x8.frozen? ⟨q,o,none⟩=false:=fun o=>(by rw[hx7];simpa using qz o);have p0:=(oX.cell (p:=⟨w.heap.size,0,none⟩) (by show w.heap.size<_;omega) (by show w.heap.size≠q;omega)).trans p0;have p1:=(oX.cell (p:=⟨w.heap.size,1,none⟩) (by show w.heap.size<_;omega) (by show w.heap.size≠q;omega)).trans p1;have p2:=(oX.cell (p:=⟨w.heap.size,2,none⟩) (by show w.heap.size<_;omega) (by show w.heap.size≠q;omega)).trans p2;have v0:=(oX.cell (p:=⟨w.heap.size+1,0,none⟩) (by show w.heap.size+1<_;omega) (by show w.heap.size+1≠q;omega)).trans v0;have v1:=(oX.cell (p:=⟨w.heap.size+1,1,none⟩) (by show w.heap.size+1<_;omega) (by show w.heap.size+1≠q;omega)).trans v1;have v2:=(oX.cell (p:=⟨w.heap.size+1,2,none⟩) (by show w.heap.size+1<_;omega) (by show w.heap.size+1≠q;omega)).trans v2;have vz:∀o:Nat,x8.frozen? ⟨w.heap.size+1,o,none⟩=false:=fun o=>(oX.frozen (p:=⟨w.heap.size+1,o,none⟩) (by show w.heap.size+1<_;omega) (by show w.heap.size+1≠q;omega)).trans (vz o);have hbw:Bw w x8:=hbw.trans (oX.below (by omega) (by omega));have iv8:=iv7.onlyO (OnlyO.of_only oX) (fun g hg e=>by have:=og6 g hg;injection e with e;omega);have zl:=ntr zl oX.size;have uq:=nlt uq oX.size;clear hx7 oX;go_wp2;obtain⟨y,ey,cs,fzy,sz,hbel,hon⟩:=zi8 (.int .i64 w1) (.int .i64 f1) (.slice a5 n5 c5) (g:=w.heap.size+1) v0 v1 v2;rw[<-ey];refine bodyPost_ret (zaf rfl _ _ _ [.int .i64 w1,.int .i64 f1,.slice a5 n5 c5] rfl cs Tryz.underlying50 rfl (by kernel_rfl)) rfl ?_;exact⟨_,_,_,rfl,(iv8.onlyO (OnlyO.of_only hon) (fun g hg e=>by have:=(iv8.own hg).1;injection e with e;omega)).lower (by omega),hbw.trans (hbel _ (by omega))⟩
 ·have hw1:max 3000 (wd/2)=w1:=hw1;have ed:=zb9 (x:=wd) (by omega) 2;have rd:IntKind.i64.wrap (wd/2)=wd/2:=i64w;go_upto_region 8 with (first| (go_at_call 83;refine (zay 3000 (wd/2) _).mono ?_;rintro e wM ⟨rfl,hM⟩;have hM:=hM.symm;subst hM;rw[hw1]));obtain⟨x8,hx7⟩:∃x,x=(x7.setCell ⟨q,0,none⟩ (.int .i64 w1)):=⟨_,rfl⟩;rw[<-hx7];have oX:Only q x7 x8:=(by rw[hx7];exact ((Only.refl _ x7).setCell (p:=⟨q,0,none⟩) rfl _));have q0:x8.cell? ⟨q,0,none⟩=some (.int .i64 w1):=(by rw[hx7];exact zbh _ q0);have q1:x8.cell? ⟨q,1,none⟩=some (.int .i64 f1):=(by rw[hx7];exact (zab (by decide)).trans q1);have q2:x8.cell? ⟨q,2,none⟩=some (.slice a5 n5 c5):=(by rw[hx7];exact (zab (by decide)).trans q2);have qz:∀o:Nat,x8.frozen? ⟨q,o,none⟩=false:=fun o=>(by rw[hx7];simpa using qz o);have p0:=(oX.cell (p:=⟨w.heap.size,0,none⟩) (by show w.heap.size<_;omega) (by show w.heap.size≠q;omega)).trans p0;have p1:=(oX.cell (p:=⟨w.heap.size,1,none⟩) (by show w.heap.size<_;omega) (by show w.heap.size≠q;omega)).trans p1;have p2:=(oX.cell (p:=⟨w.heap.size,2,none⟩) (by show w.heap.size<_;omega) (by show w.heap.size≠q;omega)).trans p2;have v0:=(oX.cell (p:=⟨w.heap.size+1,0,none⟩) (by show w.heap.size+1<_;omega) (by show w.heap.size+1≠q;omega)).trans v0;have v1:=(oX.cell (p:=⟨w.heap.size+1,1,none⟩) (by show w.heap.size+1<_;omega) (by show w.heap.size+1≠q;omega)).trans v1;have v2:=(oX.cell (p:=⟨w.heap.size+1,2,none⟩) (by show w.heap.size+1<_;omega) (by show w.heap.size+1≠q;omega)).trans v2;have vz:∀o:Nat,x8.frozen? ⟨w.heap.size+1,o,none⟩=false:=fun o=>(oX.frozen (p:=⟨w.heap.size+1,o,none⟩) (by show w.heap.size+1<_;omega) (by show w.heap.size+1≠q;omega)).trans (vz o);have hbw:Bw w x8:=hbw.trans (oX.below (by omega) (by omega));have iv8:=iv7.onlyO (OnlyO.of_only oX) (fun g hg e=>by have:=og6 g hg;injection e with e;omega);have zl:=ntr zl oX.size;have uq:=nlt uq oX.size;clear hx7 oX;go_wp2;obtain⟨y,ey,cs,fzy,sz,hbel,hon⟩:=zi8 (.int .i64 w1) (.int .i64 f1) (.slice a5 n5 c5) (g:=w.heap.size+1) v0 v1 v2;rw[<-ey];refine bodyPost_ret (zaf rfl _ _ _ [.int .i64 w1,.int .i64 f1,.slice a5 n5 c5] rfl cs Tryz.underlying50 rfl (by kernel_rfl)) rfl ?_;exact⟨_,_,_,rfl,(iv8.onlyO (OnlyO.of_only hon) (fun g hg e=>by have:=(iv8.own hg).1;injection e with e;omega)).lower (by omega),hbw.trans (hbel _ (by omega))⟩
def hasI(id:Int)(xs:List Int):Bool:=decide (id ∈ xs)
structure JK (w:World) (q:Nat) (wd fl f1:Int) (a:Option Addr) (xs:List Int) (cap:Nat) (wr:World) (v:Value):Prop where
 p:Qc wr w.heap.size wd fl (.slice a xs.length cap)
 r:Qc wr (w.heap.size+1) 0 0 (.slice none 0 0)
 o:Qc wr q wd f1 v
 rf:∀k:Nat,wr.frozen? ⟨w.heap.size+1,k,none⟩=false
 of:∀k:Nat,wr.frozen? ⟨q,k,none⟩=false
 hb:Bw w wr
 wq:w.heap.size+1<q
theorem JK.onlyO{w:World}{q:Nat}{wd fl f1:Int}{a:Option Addr}{xs:List Int}{cap:Nat}{wr wx:World}{v:Value}{o:Option Nat}(j:JK w q wd fl f1 a xs cap wr v)(ho:OnlyO o wr wx)(hq:∀g,o=some g->q<g):JK w q wd fl f1 a xs cap wx v :=
 have n0:o≠some w.heap.size:=fun e=>by have:=hq _ e;have:=j.wq;omega
 have n1:o≠some (w.heap.size+1):=fun e=>by have:=hq _ e;have:=j.wq;omega
 have n2:o≠some q:=fun e=>by have:=hq _ e;omega
 ⟨j.p.onlyO ho n0,j.r.onlyO ho n1,j.o.onlyO ho n2,fun k=>(ho.frozen (by exact j.r.z) (by exact n1)).trans (j.rf k),fun k=>(ho.frozen (by exact j.o.z) (by exact n2)).trans (j.of k),j.hb.trans (ho.below (fun g e=>by have:=hq g e;have:=j.wq;omega) j.hb.size),j.wq⟩
structure JSt (w:World) (q:Nat) (wd fl f1:Int) (a:Option Addr) (xs:List Int) (cap:Nat) (wr:World) (v:Value) (n:Nat) (ys:List Int):Prop where
 k:JK w q wd fl f1 a xs cap wr v
 own:wr.ownsRow (q+1) 2 1 v n (zbc ys)
theorem JSt.o{w:World}{q:Nat}{wd fl f1:Int}{a:Option Addr}{xs:List Int}{cap:Nat}{wr:World}{v:Value}{n:Nat}{ys:List Int}(j:JSt w q wd fl f1 a xs cap wr v n ys):Qc wr q wd f1 v:=j.k.o
theorem JSt.wq{w:World}{q:Nat}{wd fl f1:Int}{a:Option Addr}{xs:List Int}{cap:Nat}{wr:World}{v:Value}{n:Nat}{ys:List Int}(j:JSt w q wd fl f1 a xs cap wr v n ys):w.heap.size+1<q:=j.k.wq
theorem JK.put{w:World}{q:Nat}{wd fl f1:Int}{a:Option Addr}{xs:List Int}{cap:Nat}{wx:World}{v v1:Value}{n:Nat}{ys:List Int}(j:JK w q wd fl f1 a xs cap wx v)(own:wx.ownsRow (q+1) 2 1 v1 n (zbc ys)):JSt w q wd fl f1 a xs cap (wx.setCell ⟨q,2,none⟩ v1) v1 n ys:=by
 have ho:Only q wx (wx.setCell ⟨q,2,none⟩ v1):=(Only.refl _ wx).setCell (p:=⟨q,2,none⟩) rfl _;have n0:w.heap.size≠q:=by have:=j.wq;omega
 have n1:w.heap.size+1≠q:=by have:=j.wq;omega
 refine⟨⟨j.p.onlyO (OnlyO.of_only ho) (fun e=>n0 (osi e).symm),j.r.onlyO (OnlyO.of_only ho) (fun e=>n1 (osi e).symm),⟨by simpa using j.o.z,(zab (by decide)).trans j.o.c0,(zab (by decide)).trans j.o.c1,zbh _ j.o.c2⟩,fun k=>by simpa using j.rf k,fun k=>by simpa using j.of k,j.hb.trans (ho.below (by have:=j.wq;omega) j.hb.size),j.wq⟩,za7 own (Nat.lt_succ_self _)⟩
def zj6(xs:List Int)(id:Int):List Int:=xs.takeWhile (fun y=>decide (y<id)) ++ id :: xs.dropWhile (fun y=>decide (y<id))
theorem zx4{xs:List Int}{id:Int}{k:Nat}(hk:k<=xs.length)(h1:∀j (hj:j<xs.length),j<k->xs[j]<id)(h2:∀(h:k<xs.length),¬xs[k]<id):zj6 xs id=xs.take k ++ [id] ++ xs.drop k:=by
 have key:∀(L:List Int) (k:Nat),k<=L.length->(∀j (hj:j<L.length),j<k->L[j]<id)->(∀(h:k<L.length),¬L[k]<id)->(L.takeWhile fun y=>decide (y<id))=L.take k/\(L.dropWhile fun y=>decide (y<id))=L.drop k:=by
  intro L;induction L with
  | nil=>intro k hk _ _;obtain rfl:k=0:=by simpa using hk
         exact⟨rfl,rfl⟩
  | cons y L ih =>
   intro k hk a b;cases k with
   | zero =>have hy:¬y<id:=b (by simp);simp[hy]| succ k =>have hy:y<id:=a 0 (by simp) (by omega);obtain⟨e1,e2⟩:=ih k (by simpa using hk) (fun j hj hjk=>a (j+1) (by simpa using hj) (by omega)) (fun h=>b (by simpa using h));simp[hy,e1,e2]
 obtain⟨e1,e2⟩:=key xs k hk h1 h2;unfold zj6;rw[e1,e2];simp
theorem zqx{w:World}{base n:Nat}{v:Value}{xs:List Int}{t:TypeId}(e:n=xs.length)(h:w.ownsRow base t 1 v n (zbc xs)):IV w base v xs:=by subst e;exact zde h
theorem zoa{a:Option Addr}{n cap k:Nat}(hk:(k:Int)<=(n:Int))(w:World):(Instr.sliceAt 45 (.slice a n cap) (some (.int .i64 (k:Int))) none none).run Tryz.prog w=.ok (.slice (if cap=k then a else a.map (·.add k)) (n-k) (cap-k)) w:=by
 have h0:(0:Int)<=(k:Int):=by omega
 have hk':k<=n:=by omega
 have hs:(sizeOf 2).run Tryz.prog w=.ok 1 w:=by obtain⟨i0,hi,_,hz1,_⟩:=info_parts zg9;simp[sizeOf,typeInfo,hi,hz1]
 simp[Instr.sliceAt,Instr.slice,Instr.sliceBounds,Instr.sliceBound,asIntOf,run_underlying Tryz.underlying45,h0,hk',hs]
theorem zus{B:Nat}{w:World}{a:Option Addr}{xs:List Int}{cap k:Nat}(h:ISmp B w a xs)(hk:k<=xs.length)(hc:xs.length<=cap):ISmp B w (if cap=k then a else a.map (·.add k)) (xs.drop k):=by
 intro i hi;rw[List.length_drop]at hi;obtain⟨b,off,e,hb,c⟩:=h (k+i) (by omega);subst e;rw[if_neg (by omega)];refine⟨b,off+k,?_,hb,?_⟩
 ·show some ((⟨b,off,none⟩:Addr).add k)=_;congr 1;unfold Addr.add;split<;>simp_all
 ·rw[Nat.add_assoc,c,List.getElem_drop]
theorem zim{P:Program}{w:World}{o:Oper}{a:Act}{K:Act->World->Prop}{Q:Exit->Act->World->Prop}(s x:Operand)(t:TypeId)(ho:o.op=.call { callee:=.builtin .append,args:=#[s,x],argTypes:=#[t,t] })(base:Nat)(e:TypeId)(i:TypeInfo)(z:Value)(ht:P.underlying t=some (.slice e))(hi:P.info? e=some i)(hz:i.zero=some z)(hsize:i.size=1)(hby:i.bytes=8)(hzs:z.cells.size=1)(v:Value)(n:Nat)(xs:List Value)(hs:a.eval s=v)(hown:w.ownsRow base e 1 v n xs)(u:Option Addr)(c B:Nat)(ys:List Int)(hx:a.eval x=.slice u ys.length c)(hu:ISmp B w u ys)(hn:n+ys.length<=1048576)(hbase:base<=w.heap.size)(h:∀v' w',w'.ownsRow base e 1 v' (n+ys.length) (xs ++ zbc ys)->w.grownBy w' v.ownBlock->K (a.put o.dst v') w'):o.wp P a w K Q:=by
 cases u with
 | some ad =>exact wp_append_own w s x t ho base e i z 1 8 ht hi hz hsize hby hzs (by decide) v n xs hs hown ad ys.length c (zbc ys) hx (by rw[zfa,Nat.mul_one]) (zme hu) (zdl ys) (by unfold maxLen;omega) (by omega) hbase (fun v' w' k1 k2 _=>h v' w' k1 k2)
 | none =>
  have hy:ys=[]:=by
   cases ys with
   | nil=>rfl| cons y r=>obtain⟨b,off,e,_⟩:=hu 0 (by simp);cases e
  subst hy;have hrun:(Builtin.append_ #[t,t] o.type #[v,.slice none 0 c]).run P w=.ok v w:=run_append_owned_none (P:=P) (w:=w) base t o.type e i 1 ht hi v n xs hown;have k:=h v w (by simpa[zbc] using hown) ⟨rfl,rfl,rfl,nrf _,fun _ _ _=>rfl⟩;rw[List.length_nil]at hx;unfold Oper.wp;simp[execOp,ho,resolve,invoke,builtin,hs,hx,hrun,Result.andThen];exact k
theorem zsr{wd fl id:Int}{w:World}{a:Option Addr}(cap:Nat){xs:List Int}(hl:xs.length<=50)(hc:xs.length<=cap)(smp:Iw w a xs):Calls Tryz.prog 54 #[.agg #[.int .i64 wd,.int .i64 fl,.slice a xs.length cap],.int .i64 id] w (AnsP w (zj6 xs id) wd fl):=by
 obtain⟨i0,hi,hz0,hz1,hz2⟩:=info_parts zeo;go_enter Tryz.func54,Tryz.ntmps54;go_upto_region 2 with (fail);obtain⟨x,hx⟩:∃x,x=((w.alloc (.cells #[.int .i64 wd,.int .i64 fl,.slice a xs.length cap] 50)).alloc (.cells #[.int .i64 0,.int .i64 0,.slice none 0 0] 50)).alloc (.cells #[.int .i64 wd,.int .i64 fl,.slice none 0 0] 50):=⟨_,rfl⟩;rw[<-hx];have hbx:Bw w x:=by rw[hx];go_grown
 obtain⟨q,hq⟩:∃q,q=w.heap.size+1+1:=⟨_,rfl⟩;rw[<-hq];obtain⟨f1,hf1⟩:∃f1:Int,f1=fl:=⟨_,rfl⟩;have J0:Hid (JSt w q wd fl f1 a xs cap x (.slice none 0 0) 0 []):=by rw[hx,hq,hf1];exact⟨⟨⟨by simp;omega,by go_simp,by go_simp,by go_simp⟩,⟨by simp,by go_simp,by go_simp,by go_simp⟩,⟨by simp,by go_simp,by go_simp,by go_simp⟩,fun k=>by go_simp,fun k=>by go_simp,by go_grown,by omega⟩,World.ownsRow_nil _ _ _ _⟩
 clear hx hq hbx;have HF:Hid (f1=fl):=hf1;clear hf1;go_wp2;go_loopw [6] (fun i wr=>∃(k:Nat) (ua:Option Addr) (uc:Nat),i=.int .i64 k/\k<=xs.length/\JSt w q wd fl f1 a xs cap wr (.slice ua k uc) k (xs.take k)/\(∀j (hj:j<xs.length),j<k->xs[j]<id)) (fun i _=>xs.length-(intOf i).toNat);case atStart=>exact⟨0,none,0,rfl,by omega,J0.out,fun j hj h=>by omega⟩
 case round =>
  clear J0;obtain⟨n,ua,uc,rfl,hk,JS,hbef⟩:=hrel;obtain⟨k,hkn⟩:∃k,k=n:=⟨_,rfl⟩;obtain⟨ys,hys⟩:∃ys,ys=xs.take n:=⟨_,rfl⟩;have HYS:Hid (ys=xs.take n):=hys;rw[<-hys]at JS;have JJ:Hid (JSt w q wd fl f1 a xs cap wr (.slice ua n uc) n ys):=JS;have hwr:Bw w wr:=JS.k.hb;have hwq:=JS.wq;have hqz:=JS.o.z;have HB:Hid (∀j (hj:j<xs.length),j<n->xs[j]<id):=hbef;clear JS hys hbef;have s0:wr.cell? ⟨w.heap.size,2,none⟩=some (.slice a xs.length cap):=JJ.out.k.p.c2;have s1:wr.cell? ⟨q,2,none⟩=some (.slice ua n uc):=JJ.out.k.o.c2;have hwz:w.heap.size<wr.heap.size:=JJ.out.k.p.z;by_cases hgo:∃h:n<xs.length,xs[n]<id
  ·obtain⟨hlt,hy0⟩:=hgo;obtain⟨y,hy⟩:∃y,xs[n]=y:=⟨_,rfl⟩;have HY:Hid (xs.take (n+1)=ys ++ [y]):=(by show _=_;rw[List.take_succ_eq_append_getElem hlt,hy,HYS.out]);have HN:Hid (∀j (hj:j<xs.length),j<n+1->xs[j]<id):=fun j hj h=>by
    by_cases e:j=n
    ·subst e;exact hy0
    ·exact HB.out j hj (by omega)
   have hlt':(n:Int)<(xs.length:Int):=(by omega);obtain⟨b,off,rfl,hb,c0⟩:=smp.at hwr n hlt;rw[hy]at c0 hy0;rw[<-hkn]at c0;have hyd:decide (y<id)=true:=decide_eq_true hy0;have hn50:n<50:=(by omega);clear hy;subst hkn;go_wp2;refine za4 (S:=fun w'=>w'.cell? ⟨w.heap.size,2,none⟩=some (.slice (some ⟨b,off,none⟩) xs.length cap)/\w'.cell? ⟨q,2,none⟩=some (.slice ua k uc)/\w'.cell? ⟨b,off+k,none⟩=some (.int .i64 y)) 10 (by kernel_rfl) (⟨by go_simp,by go_simp,by go_simp⟩) (fun hS=>?_);refine zae 0 rfl ?_;refine zae 1 rfl ?_;refine zae 2 rfl ?_;refine zae 3 rfl ?_;refine zae 4 rfl ?_;refine zae 5 rfl ?_;refine zae 6 rfl ?_;refine zaj (i:=7) (by kernel_rfl) rfl (fun K hK=>?_);go_simp;refine hK.out _ _ (have k':=zai (w:=wr) (w':=(wr.drew.alloc (.cells #[.int .i64 y] 2))) (by go_grown);⟨(k' _ _ (by omega)).trans s0,(k' _ _ (by omega)).trans s1,(k' _ _ (by have:=hwr.size;omega)).trans c0⟩) (fun hS=>?_);(try simp only[nrm]);refine zaj (i:=8) (by kernel_rfl) rfl (fun K hK=>?_);rw[if_pos (by rfl)];refine wp_append_own _ _ _ 45 rfl (q+1) 2 i0 _ 1 8 Tryz.underlying45 hi hz0 hz1 hz2 rfl (by decide) _ _ _ rfl (JJ.out.own.drew.alloc _) ⟨wr.heap.size,0,none⟩ 1 1 [.int .i64 y] rfl rfl (zen (by go_simp)) (fun u hu=>by rw[List.mem_singleton]at hu;subst hu;rfl) (by unfold maxLen;omega) (by omega) (by have:=JJ.out.o.z;simp;omega) ?_;intro v1 wx hown1 hgr1 hnil1;obtain⟨a1,c1',rfl⟩:=za2 hown1;have hno:OnlyO (Value.slice ua k uc).ownBlock wr wx:=OnlyO.trans (OnlyO.of_below (by go_grown)) (OnlyO.of_grown hgr1);have J1:=JJ.out.k.onlyO hno (fun g e'=>by have:=(JJ.out.own.lt g e').1;omega);have JF:Hid (JSt w q wd fl f1 (some ⟨b,off,none⟩) xs cap (wx.setCell ⟨q,2,none⟩ (.slice a1 (k+1) c1')) (.slice a1 (k+1) c1') (k+1) (ys ++ [y])):=JK.put J1 (by rw[zbx];exact hown1);have hx1:=hno.size;have s0x:=J1.p.c2;have s1x:=J1.o.c2;have s2x:=J1.of;refine hK.out _ _ ⟨s0x,s1x,(hno.cell (p:=⟨b,off+k,none⟩) (by show b<_;have:=hwr.size;omega) (fun e'=>by have h1:=(JJ.out.own.lt _ e').1;have h2:=JJ.out.wq;change q+1<=b at h1;omega)).trans c0⟩ (fun hS=>?_);(try simp only[nrm]);refine zae 9 rfl ?_;refine zat (by kernel_rfl) rfl (by kernel_rfl) (fun K hK=>?_);go_simp;refine hK.out _ _ ?_;(try simp only[nrm]);obtain⟨x9,hx9⟩:∃x,x=wx.setCell ⟨q,2,none⟩ (.slice a1 (k+1) c1'):=⟨_,rfl⟩;rw[<-hx9]at JF ⊢;clear hx9;go_wp2;go_roundw;case rel=>exact⟨k+1,a1,c1',by go_num,by omega,by rw[HY.out];exact JF.out,HN.out⟩
   case measure=>simp[intOf]<;>omega
  ·have HINS:Hid (zj6 xs id=ys ++ [id] ++ xs.drop n):=(by show _=_;rw[HYS.out];exact zx4 hk HB.out (fun h hh=>hgo ⟨h,hh⟩));have hsl:=fun w=>zoa (a:=a) (cap:=cap) (show (n:Int)<=(xs.length:Int) by omega) w;have HSL:Hid (∀w,(Instr.sliceAt 45 (.slice a xs.length cap) (some (.int .i64 (n:Int))) none none).run Tryz.prog w=.ok (.slice (if cap=n then a else a.map (·.add n)) (xs.length-n) (cap-n)) w):=hsl;clear hsl;have HSM:Hid (∀wx,Bw w wx->ISmp w.heap.size wx (if cap=n then a else a.map (·.add n)) (xs.drop n)):=fun wx h=>zus (smp.mono h) hk hc;obtain⟨u,hu⟩:∃u:Option Addr,(if cap=n then a else a.map (·.add n))=u:=⟨_,rfl⟩;rw[hu]at HSL HSM;clear hu;obtain⟨zs,hzs⟩:∃zs,zs=xs.drop n:=⟨_,rfl⟩;have HZL:Hid (xs.length-n=zs.length):=(by show _=_;rw[hzs,List.length_drop]);have hzl:n+1+zs.length<=60:=(by rw[hzs,List.length_drop];omega);rw[<-hzs]at HSM HINS;rw[HZL.out]at HSL;have HIL:Hid ((zj6 xs id).length=n+1+zs.length):=(by show _=_;rw[HINS.out,List.length_append,List.length_append,HYS.out,List.length_take];simp;omega);clear hzs;by_cases hlt:n<xs.length
   ·have hlt':(n:Int)<(xs.length:Int):=(by omega);obtain⟨b,off,rfl,hb,c0⟩:=smp.at hwr n hlt;obtain⟨y,hy⟩:∃y,xs[n]=y:=⟨_,rfl⟩;have hyd:decide (y<id)=false:=decide_eq_false (fun h=>hgo ⟨hlt,by rw[hy];exact h⟩);rw[hy]at c0;clear hy hgo;go_upto_region 6 with (fail);refine za4 (S:=fun w'=>w'.cell? ⟨w.heap.size,2,none⟩=some (.slice (some ⟨b,off,none⟩) xs.length cap)/\w'.cell? ⟨q,2,none⟩=some (.slice ua n uc)) 13 (by kernel_rfl) (⟨by go_simp,by go_simp⟩) (fun hS=>?_);refine zae 0 rfl ?_;refine zae 1 rfl ?_;refine zae 2 rfl ?_;refine zae 5 rfl ?_;refine zae 6 rfl ?_;refine zae 7 rfl ?_;refine zae 8 rfl ?_;refine zae 9 rfl ?_;refine z1f 10 (v:=.slice u zs.length (cap-n)) rfl ?_ ?_
    ·intro w' hSw;(try dsimp only at hSw);have h:=HSL.out w';simp[execOp,Act.eval,h,Result.andThen]
    (try simp only[nrm]);refine zaj (i:=3) (by kernel_rfl) rfl (fun K hK=>?_);go_simp;refine hK.out _ _ (have k':=zai (w:=wr) (w':=(wr.drew.alloc (.cells #[.int .i64 id] 2))) (by go_grown);⟨(k' _ _ (by omega)).trans s0,(k' _ _ (by omega)).trans s1⟩) (fun hS=>?_);(try simp only[nrm]);refine zaj (i:=4) (by kernel_rfl) rfl (fun K hK=>?_);rw[if_pos (by rfl)];refine wp_append_own _ _ _ 45 rfl (q+1) 2 i0 _ 1 8 Tryz.underlying45 hi hz0 hz1 hz2 rfl (by decide) _ _ _ rfl (JJ.out.own.drew.alloc _) ⟨wr.heap.size,0,none⟩ 1 1 [.int .i64 id] rfl rfl (zen (by go_simp)) (fun u hu=>by rw[List.mem_singleton]at hu;subst hu;rfl) (by unfold maxLen;omega) (by omega) (by simp;omega) ?_;intro v1 wx hown1 hgr1 hnil1;obtain⟨a1,c1',rfl⟩:=za2 hown1;have hno:OnlyO (Value.slice ua n uc).ownBlock wr wx:=OnlyO.trans (OnlyO.of_below (by go_grown)) (OnlyO.of_grown hgr1);have J1:=JJ.out.k.onlyO hno (fun g e'=>by have:=(JJ.out.own.lt g e').1;omega);have hx1:=hno.size;have s0x:=J1.p.c2;have s1x:=J1.o.c2;refine hK.out _ _ ⟨s0x,s1x⟩ (fun hS=>?_);(try simp only[nrm]);refine zaj (i:=11) (by kernel_rfl) rfl (fun K hK=>?_);rw[if_pos (by rfl)];refine zim _ _ 45 rfl (q+1) 2 i0 _ Tryz.underlying45 hi hz0 hz1 hz2 rfl _ _ _ rfl hown1 u (cap-n) w.heap.size zs rfl (HSM.out _ J1.hb) (by omega) (by omega) ?_;intro v2 wy hown2 hgr2;obtain⟨a2,c2',rfl⟩:=za2 hown2;have hno2:OnlyO (Value.slice a1 (n+1) c1').ownBlock wx wy:=OnlyO.of_grown hgr2;have J2:=J1.onlyO hno2 (fun g e'=>by have:=(hown1.lt g e').1;omega);have JF:Hid (JSt w q wd fl f1 ((some ⟨b,off,none⟩)) xs cap (wy.setCell ⟨q,2,none⟩ (.slice a2 (n+1+zs.length) c2')) (.slice a2 (n+1+zs.length) c2') (n+1+zs.length) (zj6 xs id)):=JK.put J2 (by rw[HINS.out,zbx,zbx];exact hown2);have s0y:=J2.p.c2;have s1y:=J2.o.c2;have s2y:=J2.of;have hqy:=J2.o.z;refine hK.out _ _ ⟨s0y,s1y⟩ (fun hS=>?_);(try simp only[nrm]);refine zae 12 rfl ?_;refine zat (by kernel_rfl) rfl (by kernel_rfl) (fun K hK=>?_);go_simp;refine hK.out _ _ ?_;(try simp only[nrm]);obtain⟨x9,hx9⟩:∃x,x=wy.setCell ⟨q,2,none⟩ (.slice a2 (n+1+zs.length) c2'):=⟨_,rfl⟩;rw[<-hx9]at JF ⊢;clear hx9;have v0:=JF.out.k.r.c0;have v1:=JF.out.k.r.c1;have v2:=JF.out.k.r.c2;have vz:=JF.out.k.rf;have o0:=JF.out.k.o.c0;have o1:=JF.out.k.o.c1;have o2:=JF.out.k.o.c2;have hb9:=JF.out.k.hb;have ow9:=JF.out.own;have iv9:IV x9 (q+1) (.slice a2 (n+1+zs.length) c2') (zj6 xs id):=zqx HIL.out.symm ow9;go_wp2;obtain⟨y9,ey,cs,fzy,sz,hbel,hon⟩:=zi8 (.int .i64 wd) (.int .i64 f1) (.slice a2 (n+1+zs.length) c2') (w:=x9) (g:=w.heap.size+1) v0 v1 v2;rw[<-ey];refine bodyPost_ret (zaf rfl _ _ _ [.int .i64 wd,.int .i64 f1,.slice a2 (n+1+zs.length) c2'] rfl cs Tryz.underlying50 rfl (by kernel_rfl)) rfl ?_;rw[<-HF.out];exact⟨_,_,_,rfl,(iv9.onlyO (OnlyO.of_only hon) (fun g hg e=>by have:=(iv9.own hg).1;injection e with e;omega)).lower (by omega),hb9.trans (hbel _ (by omega))⟩
   ·have hlt':¬(n:Int)<(xs.length:Int):=(by omega);have hdl:decide ((n:Int)<(xs.length:Int))=false:=decide_eq_false hlt';clear hgo;go_upto_region 6 with (fail);refine za4 (S:=fun w'=>w'.cell? ⟨w.heap.size,2,none⟩=some (.slice a xs.length cap)/\w'.cell? ⟨q,2,none⟩=some (.slice ua n uc)) 13 (by kernel_rfl) (⟨by go_simp,by go_simp⟩) (fun hS=>?_);refine zae 0 rfl ?_;refine zae 1 rfl ?_;refine zae 2 rfl ?_;refine zae 5 rfl ?_;refine zae 6 rfl ?_;refine zae 7 rfl ?_;refine zae 8 rfl ?_;refine zae 9 rfl ?_;refine z1f 10 (v:=.slice u zs.length (cap-n)) rfl ?_ ?_
    ·intro w' hSw;(try dsimp only at hSw);have h:=HSL.out w';simp[execOp,Act.eval,h,Result.andThen]
    (try simp only[nrm]);refine zaj (i:=3) (by kernel_rfl) rfl (fun K hK=>?_);go_simp;refine hK.out _ _ (have k':=zai (w:=wr) (w':=(wr.drew.alloc (.cells #[.int .i64 id] 2))) (by go_grown);⟨(k' _ _ (by omega)).trans s0,(k' _ _ (by omega)).trans s1⟩) (fun hS=>?_);(try simp only[nrm]);refine zaj (i:=4) (by kernel_rfl) rfl (fun K hK=>?_);rw[if_pos (by rfl)];refine wp_append_own _ _ _ 45 rfl (q+1) 2 i0 _ 1 8 Tryz.underlying45 hi hz0 hz1 hz2 rfl (by decide) _ _ _ rfl (JJ.out.own.drew.alloc _) ⟨wr.heap.size,0,none⟩ 1 1 [.int .i64 id] rfl rfl (zen (by go_simp)) (fun u hu=>by rw[List.mem_singleton]at hu;subst hu;rfl) (by unfold maxLen;omega) (by omega) (by simp;omega) ?_;intro v1 wx hown1 hgr1 hnil1;obtain⟨a1,c1',rfl⟩:=za2 hown1;have hno:OnlyO (Value.slice ua n uc).ownBlock wr wx:=OnlyO.trans (OnlyO.of_below (by go_grown)) (OnlyO.of_grown hgr1);have J1:=JJ.out.k.onlyO hno (fun g e'=>by have:=(JJ.out.own.lt g e').1;omega);have hx1:=hno.size;have s0x:=J1.p.c2;have s1x:=J1.o.c2;refine hK.out _ _ ⟨s0x,s1x⟩ (fun hS=>?_);(try simp only[nrm]);refine zaj (i:=11) (by kernel_rfl) rfl (fun K hK=>?_);rw[if_pos (by rfl)];refine zim _ _ 45 rfl (q+1) 2 i0 _ Tryz.underlying45 hi hz0 hz1 hz2 rfl _ _ _ rfl hown1 u (cap-n) w.heap.size zs rfl (HSM.out _ J1.hb) (by omega) (by omega) ?_;intro v2 wy hown2 hgr2;obtain⟨a2,c2',rfl⟩:=za2 hown2;have hno2:OnlyO (Value.slice a1 (n+1) c1').ownBlock wx wy:=OnlyO.of_grown hgr2;have J2:=J1.onlyO hno2 (fun g e'=>by have:=(hown1.lt g e').1;omega);have JF:Hid (JSt w q wd fl f1 (a) xs cap (wy.setCell ⟨q,2,none⟩ (.slice a2 (n+1+zs.length) c2')) (.slice a2 (n+1+zs.length) c2') (n+1+zs.length) (zj6 xs id)):=JK.put J2 (by rw[HINS.out,zbx,zbx];exact hown2);have s0y:=J2.p.c2;have s1y:=J2.o.c2;have s2y:=J2.of;have hqy:=J2.o.z;refine hK.out _ _ ⟨s0y,s1y⟩ (fun hS=>?_);(try simp only[nrm]);refine zae 12 rfl ?_;refine zat (by kernel_rfl) rfl (by kernel_rfl) (fun K hK=>?_);go_simp;refine hK.out _ _ ?_;(try simp only[nrm]);obtain⟨x9,hx9⟩:∃x,x=wy.setCell ⟨q,2,none⟩ (.slice a2 (n+1+zs.length) c2'):=⟨_,rfl⟩;rw[<-hx9]at JF ⊢;clear hx9;have v0:=JF.out.k.r.c0;have v1:=JF.out.k.r.c1;have v2:=JF.out.k.r.c2;have vz:=JF.out.k.rf;have o0:=JF.out.k.o.c0;have o1:=JF.out.k.o.c1;have o2:=JF.out.k.o.c2;have hb9:=JF.out.k.hb;have ow9:=JF.out.own;have iv9:IV x9 (q+1) (.slice a2 (n+1+zs.length) c2') (zj6 xs id):=zqx HIL.out.symm ow9;go_wp2;obtain⟨y9,ey,cs,fzy,sz,hbel,hon⟩:=zi8 (.int .i64 wd) (.int .i64 f1) (.slice a2 (n+1+zs.length) c2') (w:=x9) (g:=w.heap.size+1) v0 v1 v2;rw[<-ey];refine bodyPost_ret (zaf rfl _ _ _ [.int .i64 wd,.int .i64 f1,.slice a2 (n+1+zs.length) c2'] rfl cs Tryz.underlying50 rfl (by kernel_rfl)) rfl ?_;rw[<-HF.out];exact⟨_,_,_,rfl,(iv9.onlyO (OnlyO.of_only hon) (fun g hg e=>by have:=(iv9.own hg).1;injection e with e;omega)).lower (by omega),hb9.trans (hbel _ (by omega))⟩
def AnsPO(w:World)(xs:List Int)(wd fl:Int)(e:Ending)(w':World):Prop:=∃a c,e=.returned (.agg #[.int .i64 wd,.int .i64 fl,.slice a xs.length c])/\w'.ownsRow w.heap.size 2 1 (.slice a xs.length c) xs.length (zbc xs)/\Bw w w'
theorem zc0{w:World}{lo lo' n s:Nat}{e:TypeId}{v:Value}{xs:List Value}(h:w.ownsRow lo e s v n xs)(hl:lo'<=lo):w.ownsRow lo' e s v n xs:=by
 refine⟨h.1,?_⟩;rcases h.2 with h|⟨g,cap,cur,e1,h1,h2⟩
 ·exact .inl h
 ·exact .inr ⟨g,cap,cur,e1,ntr hl h1,h2⟩
theorem zqy{wd fl:Int}{w:World}{a:Option Addr}(cap:Nat){xs:List Int}(hl:xs.length<=1048576)(smp:Iw w a xs):Calls Tryz.prog 117 #[.agg #[.int .i64 wd,.int .i64 fl,.slice a xs.length cap]] w (AnsPO w xs wd fl):=by
 obtain⟨i0,hi,hz0,hz1,hz2⟩:=info_parts zeo;go_enter Tryz.func117,Tryz.ntmps117;go_upto_region 1 with (fail);obtain⟨x,hx⟩:∃x,x=(w.alloc (.cells #[.int .i64 wd,.int .i64 fl,.slice a xs.length cap] 50)).alloc (.cells #[.int .i64 0,.int .i64 0,.slice none 0 0] 50):=⟨_,rfl⟩;rw[<-hx];have hbw:Bw w x:=by rw[hx];go_grown
 have zl:w.heap.size+1+1<=x.heap.size:=by rw[hx];simp
 have p0:x.cell? ⟨w.heap.size,0,none⟩=some (.int .i64 wd):=by rw[hx];go_simp
 have p1:x.cell? ⟨w.heap.size,1,none⟩=some (.int .i64 fl):=by rw[hx];go_simp
 have p2:x.cell? ⟨w.heap.size,2,none⟩=some (.slice a xs.length cap):=by rw[hx];go_simp
 have v0:x.cell? ⟨w.heap.size+1,0,none⟩=some (.int .i64 0):=by rw[hx];go_simp
 have v1:x.cell? ⟨w.heap.size+1,1,none⟩=some (.int .i64 0):=by rw[hx];go_simp
 have v2:x.cell? ⟨w.heap.size+1,2,none⟩=some (.slice none 0 0):=by rw[hx];go_simp
 have pz:∀o:Nat,x.frozen? ⟨w.heap.size,o,none⟩=false:=fun o=>by rw[hx];go_simp
 have vz:∀o:Nat,x.frozen? ⟨w.heap.size+1,o,none⟩=false:=fun o=>by rw[hx];go_simp
 clear hx;have HSM:Hid (ISmp w.heap.size (x.alloc (.cells #[] 2)) a xs):=(smp.mono hbw).mono ((zad x _).mono (by omega));have n0:x.heap.size≠w.heap.size:=by omega
 have n1:w.heap.size≠x.heap.size:=by omega
 have n2:w.heap.size<x.heap.size:=by omega
 go_upto_region 2 with (first| (at_builtin;refine zd0 (by rfl) _ _ 45 rfl x.heap.size 2 i0 _ Tryz.underlying45 hi hz0 hz1 hz2 rfl _ 0 [] rfl (zd7 x _ _ rfl (nrf _) _) a cap w.heap.size xs rfl HSM.out (by omega) (by simp) ?_;intro v' w3 own3 gr3;have hb3:Bw x w3:=((brf _ x).alloc (nrf _) _).grown gr3 (by simp) (fun k hk=>Nat.le_of_eq (osi hk));rw[Nat.zero_add,List.nil_append]at own3;obtain⟨va,ca,rfl⟩:=za2 own3;have hbw:Bw w w3:=zaa hbw hb3;have p0:=bct hb3 (by omega) p0;have p1:=bct hb3 (by omega) p1;have p2:=bct hb3 (by omega) p2;have v0:=bct hb3 (by omega) v0;have v1:=bct hb3 (by omega) v1;have v2:=bct hb3 (by omega) v2;have vz:∀o:Nat,w3.frozen? ⟨w.heap.size+1,o,none⟩=false:=fun o=>(hb3.frozen (p:=⟨w.heap.size+1,o,none⟩) (by show w.heap.size+1<_;omega)).trans (vz o);have zl:w.heap.size+1+1<=w3.heap.size:=ntr zl hb3.size;have pz:∀o:Nat,w3.frozen? ⟨w.heap.size,o,none⟩=false:=(fun o=>(hb3.frozen (p:=⟨w.heap.size,o,none⟩) (by show w.heap.size<_;omega)).trans (pz o))));have iv:IV w3 x.heap.size (.slice va xs.length ca) xs:=zde own3;obtain⟨x4,hx4⟩:∃y,y=w3.setCell ⟨w.heap.size,2,none⟩ (.slice va xs.length ca):=⟨_,rfl⟩;rw[<-hx4];have oX:Only w.heap.size w3 x4:=by rw[hx4];exact (Only.refl _ w3).setCell (p:=⟨w.heap.size,2,none⟩) rfl _
 have p0:x4.cell? ⟨w.heap.size,0,none⟩=some (.int .i64 wd):=by rw[hx4];exact (zab (by decide)).trans p0
 have p1:x4.cell? ⟨w.heap.size,1,none⟩=some (.int .i64 fl):=by rw[hx4];exact (zab (by decide)).trans p1
 have p2:x4.cell? ⟨w.heap.size,2,none⟩=some (.slice va xs.length ca):=by rw[hx4];exact zbh _ p2
 have v0:x4.cell? ⟨w.heap.size+1,0,none⟩=some (.int .i64 0):=(oX.cell (by show w.heap.size+1<_;omega) (by show w.heap.size+1≠_;omega)).trans v0;have v1:x4.cell? ⟨w.heap.size+1,1,none⟩=some (.int .i64 0):=(oX.cell (by show w.heap.size+1<_;omega) (by show w.heap.size+1≠_;omega)).trans v1;have v2:x4.cell? ⟨w.heap.size+1,2,none⟩=some (.slice none 0 0):=(oX.cell (by show w.heap.size+1<_;omega) (by show w.heap.size+1≠_;omega)).trans v2;have vz:∀o:Nat,x4.frozen? ⟨w.heap.size+1,o,none⟩=false:=fun o=>(oX.frozen (by show w.heap.size+1<_;omega) (by show w.heap.size+1≠_;omega)).trans (vz o);have own4:x4.ownsRow x.heap.size 2 1 (.slice va xs.length ca) xs.length (zbc xs):=own3.kept (row:=some w.heap.size) ⟨oX.os,oX.tape,oX.output,oX.size,fun k hk hn=>oX.block k hk (fun e=>hn (by rw[e]))⟩ (by
  cases hob:(Value.slice va xs.length ca).ownBlock with
  | none=>exact .inl rfl| some q=>exact .inr (fun e=>by have h1:=(own3.lt q hob).1;have h3:=osi e;omega))
 have iv:IV x4 x.heap.size (.slice va xs.length ca) xs:=iv.onlyO (OnlyO.of_only oX) (fun g hg e=>by have:=(iv.own hg).1;injection e with e;omega);have hbw:Bw w x4:=hbw.trans (oX.below (nrf _) (by omega));have zl:w.heap.size+1+1<=x4.heap.size:=ntr zl oX.size;clear hx4 oX own3 gr3 HSM;go_wp2;obtain⟨y,ey,cs,fzy,sz,hbel,hon⟩:=zi8 (.int .i64 wd) (.int .i64 fl) (.slice va xs.length ca) (w:=x4) (g:=w.heap.size+1) v0 v1 v2;rw[<-ey];refine bodyPost_ret (zaf rfl _ _ _ [.int .i64 wd,.int .i64 fl,.slice va xs.length ca] rfl cs Tryz.underlying50 rfl (by kernel_rfl)) rfl ?_;have own5:y.ownsRow x.heap.size 2 1 (.slice va xs.length ca) xs.length (zbc xs):=own4.kept (row:=some (w.heap.size+1)) ⟨hon.os,hon.tape,hon.output,hon.size,fun k hk hn=>hon.block k hk (fun e=>hn (by rw[e]))⟩ (by
  cases hob:(Value.slice va xs.length ca).ownBlock with
  | none=>exact .inl rfl| some q=>exact .inr (fun e=>by have h1:=(own4.lt q hob).1;have h3:=osi e;omega))
 exact⟨va,ca,rfl,zc0 own5 (by omega),hbw.trans (hbel _ (by omega))⟩
abbrev G14:=Kn × Value
def zgt(x:G14):List Value:=x.1.cs ++ [x.2]
theorem zb3(x:G14):(zgt x).length=14:=rfl
def zbl(G:List G14):List Value:=G.flatMap zgt
theorem zff(a b:List G14):zbl (a ++ b)=zbl a ++ zbl b:=List.flatMap_append
theorem zas(G:List G14):(zbl G).length=G.length*14:=by
 induction G with
 | nil=>rfl| cons x r ih =>show (zgt x ++ zbl r).length=_;rw[List.length_append,ih,zb3,List.length_cons];omega
theorem zb1(G:List G14):∀i (h:i<G.length) j,j<14->(zbl G)[i*14+j]?=(zgt G[i])[j]?:=by
 induction G with
 | nil=>intro i h;cases h
 | cons x r ih =>
  intro i h j hj;show (zgt x ++ zbl r)[i*14+j]?=_;cases i with
  | zero =>rw[Nat.zero_mul,Nat.zero_add,List.getElem?_append_left (by rw[zb3];exact hj)];rfl| succ i =>rw[List.getElem?_append_right (by rw[zb3];omega),zb3,show (i+1)*14+j-14=i*14+j by omega];exact ih i (by simpa using h) j hj
structure VK (B:Nat) (w:World) (G:List G14) (K:List Kn):Prop where
 fst:G.map Prod.fst=K
 at':∀i (h:i<G.length),SzV B w G[i].2 G[i].1.xs
section
variable{B:Nat}{w:World}{G:List G14}{K:List Kn}
theorem VK.len(h:VK B w G K):G.length=K.length:=by rw[<-h.fst,List.length_map]
theorem VK.get(h:VK B w G K){i:Nat}(h1:i<G.length)(h2:i<K.length):G[i].1=K[i]:=by
 have:(G.map Prod.fst)[i]?=K[i]?:=by rw[h.fst]
 rw[List.getElem?_map,List.getElem?_eq_getElem h1,List.getElem?_eq_getElem h2]at this;exact osi this
theorem VK.one(h:VK B w G K):∀u ∈ zbl G,u.oneCell'=true:=by intro u hu;obtain⟨x,hx,hu⟩:=List.mem_flatMap.1 hu;obtain⟨i,hi,rfl⟩:=List.mem_iff_getElem.1 hx;obtain⟨sa,sc,e,_⟩:=h.at' i hi;simp only[zgt,Kn.cs,List.mem_append,List.mem_cons,List.not_mem_nil,or_false]at hu;rcases hu with (rfl|rfl|rfl|rfl|rfl|rfl|rfl|rfl|rfl|rfl|rfl|rfl|rfl)|rfl;all_goals first|rfl|(rw[e];rfl)
end
theorem VK.mono{B:Nat}{w x:World}{G:List G14}{K:List Kn}(h:VK B w G K)(hb:Below B w x):VK B x G K:=⟨h.fst,fun i hi=>(h.at' i hi).mono hb⟩
theorem VK.filter{B:Nat}{w:World}{G:List G14}{K:List Kn}(h:VK B w G K)(p:Kn->Bool):VK B w (G.filter (fun x=>p x.1)) (K.filter p):=by
 refine⟨?_,fun i hi=>?_⟩
 ·rw[<-h.fst,List.filter_map];rfl
 ·have hm:=List.getElem_mem hi;obtain⟨hm,_⟩:=List.mem_filter.1 hm;obtain⟨j,hj,e⟩:=List.mem_iff_getElem.1 hm;rw[<-e];exact h.at' j hj
theorem zfg(b o j:Nat):(⟨b,o,none⟩:Addr).add j=⟨b,o+j,none⟩:=by unfold Addr.add;split<;>simp_all
theorem Kls.vals{B:Nat}{w:World}{a:Option Addr}{K:List Kn}(h:Kls B w a K)(hn:0<K.length):
 ∃b off G,a=some ⟨b,off,none⟩/\b<B/\VK B w G K/\∀j u,(zbl G)[j]?=some u->w.cell? ((⟨b,off,none⟩:Addr).add j)=some u:=by
 obtain⟨b,off,sa,sc,rfl,hb,_⟩:=h 0 hn;have one:∀i,i<K.length->∃x:G14,∀h':i<K.length,(x.1=K[i]/\SzV B w x.2 x.1.xs)/\∀j u,(zgt x)[j]?=some u->w.cell? ⟨b,off+i*14+j,none⟩=some u:=by
  intro i hi;obtain⟨b',off',sa,sc,e,_,c0,c1,s⟩:=h i hi;injection e with e;injection e with e1 e2;subst e1 e2;refine⟨(K[i],.slice sa K[i].xs.length sc),fun _=>⟨⟨rfl,sa,sc,rfl,s⟩,fun j u hu=>?_⟩⟩;have hj:=(List.getElem?_eq_some_iff.1 hu).1;rw[zb3]at hj;by_cases e:j=13
  ·subst e;have:Value.slice sa K[i].xs.length sc=u:=(by have:(zgt (K[i],Value.slice sa K[i].xs.length sc))[13]?=some (.slice sa K[i].xs.length sc):=rfl;rw[this]at hu;exact osi hu);rw[<-this];exact c1
  ·refine c0 j u ?_;unfold zgt at hu;rw[List.getElem?_append_left (by rw[Kn.len];omega)]at hu;exact hu
 obtain⟨G,hl,hG⟩:=zl5 one;refine⟨b,off,G,rfl,hb,⟨?_,fun i hi=>(hG i hi (by omega)).1.2⟩,fun j u hu=>?_⟩
 ·apply List.ext_getElem
  ·rw[List.length_map,hl]
  ·intro i h1 h2;rw[List.getElem_map];exact (hG i (by omega) h2).1.1
 ·have hj:j<(zbl G).length:=(List.getElem?_eq_some_iff.1 hu).1;rw[zas]at hj;rw[zfg];have hi:j/14<G.length:=(by omega);have hg:=zb1 G (j/14) hi (j%14) (by omega);rw[show j/14*14+j%14=j by omega,hu]at hg;have:=(hG (j/14) hi (by omega)).2 (j%14) u hg.symm;rw[show off+j/14*14+j%14=off+j by omega]at this;exact this
def setL(xs:List Value):Nat->List Value->List Value
 | _,[]=>xs| s,v :: r=>setL (xs.set s v) (s+1) r
theorem zut{base:Nat}{e:TypeId}{g n cap m:Nat}:∀(vs:List Value) (s:Nat) (w:World) (xs:List Value),w.ownsRow base e m (.slice (some ⟨g,0,none⟩) n cap) n xs->(w.setCells g s vs).ownsRow base e m (.slice (some ⟨g,0,none⟩) n cap) n (setL xs s vs)
 | [],_,_,_,h=>h| v :: r,s,w,xs,h=>zut r (s+1) _ _ (h.stored s v).1
theorem zuu:∀(vs xs:List Value) (s j:Nat),s+vs.length<=xs.length->(setL xs s vs)[j]?=if s<=j/\j<s+vs.length then vs[j-s]? else xs[j]?
 | [],xs,s,j,_=>by show xs[j]?=_;rw[if_neg (by simp)]
 | v :: r,xs,s,j,h=>by
  show (setL (xs.set s v) (s+1) r)[j]?=_;rw[List.length_cons]at h;rw[zuu r _ _ _ (by rw[List.length_set];omega),List.getElem?_set,List.length_cons];by_cases h1:j=s
  ·subst h1;rw[if_neg (by omega),if_pos rfl,if_pos (by omega),if_pos (by omega),Nat.sub_self];rfl
  ·by_cases h2:s+1<=j/\j<s+1+r.length
   ·rw[if_pos h2,if_pos (by omega),show j-s=j-(s+1)+1 by omega,List.getElem?_cons_succ]
   ·rw[if_neg h2,if_neg (fun e=>h1 e.symm),if_neg (by omega)]
theorem zx5(G:List G14){i:Nat}(hi:i<G.length)(x:G14):setL (zbl G) (i*14) (zgt x)=zbl (G.set i x):=by
 apply List.ext_getElem?;intro j;rw[zuu _ _ _ _ (by rw[zas,zb3];omega),zb3];by_cases hj:j<G.length*14
 ·have h1:=zb1 (G.set i x) (j/14) (by rw[List.length_set];omega) (j%14) (by omega);have h2:=zb1 G (j/14) (by omega) (j%14) (by omega);rw[show j/14*14+j%14=j by omega]at h1 h2;rw[h1,h2,List.getElem_set];by_cases e:i=j/14
  ·rw[if_pos (by omega),if_pos e,show j-i*14=j%14 by omega]
  ·rw[if_neg (by omega),if_neg e]
 ·rw[if_neg (by omega),List.getElem?_eq_none (by rw[zas];omega),List.getElem?_eq_none (by rw[zas,List.length_set];omega)]
theorem zvz(G:List G14)(i:Nat):(zbl G).take (i*14)=zbl (G.take i):=by
 apply List.ext_getElem?;intro j;rw[List.getElem?_take];by_cases hj:j<i*14
 ·rw[if_pos hj];by_cases h2:j<G.length*14
  ·have h1:=zb1 (G.take i) (j/14) (by rw[List.length_take];omega) (j%14) (by omega);have h2:=zb1 G (j/14) (by omega) (j%14) (by omega);rw[show j/14*14+j%14=j by omega]at h1 h2;rw[h1,h2,List.getElem_take]
  ·rw[List.getElem?_eq_none (by rw[zas];omega),List.getElem?_eq_none (by rw[zas,List.length_take];omega)]
 ·rw[if_neg hj,List.getElem?_eq_none (by rw[zas,List.length_take];omega)]
theorem zzx{w:World}{base:Nat}{e:TypeId}{g n cap i m:Nat}{xs:List Value}(h:w.ownsRow base e m (.slice (some ⟨g,0,none⟩) n cap) n xs)(hi:i<=n):w.ownsRow base e m (.slice (some ⟨g,0,none⟩) i cap) i (xs.take (i*m)):=by
 rcases h.2 with⟨h',_⟩|⟨g',cap',cur,h',hb,hg,hnc,hcm,hcs,htake⟩
 ·cases h'
 ·injection h' with e1 _ e3;injection e1 with e1;injection e1 with e1;subst e1 e3;have hl:=h.1;have hm:i*m<=n*m:=Nat.mul_le_mul_right _ hi;refine⟨by rw[List.length_take,hl];omega,.inr ⟨g,cap,cur,rfl,hb,hg,by omega,hcm,hcs,?_⟩⟩;rw[<-htake,List.take_take];congr 1;omega
theorem zqz{base:Nat}{e:TypeId}{g n cap m:Nat}{xs:List Value}:∀(vs:List Value) (s:Nat) (w:World),w.ownsRow base e m (.slice (some ⟨g,0,none⟩) n cap) n xs->n*m<=s->(w.setCells g s vs).ownsRow base e m (.slice (some ⟨g,0,none⟩) n cap) n xs
 | [],s,w,h,_=>h| v :: r,s,w,h,hs=>by have k:=(h.stored s v).1;rw[List.set_eq_of_length_le (by rw[h.1];exact hs)]at k;exact zqz r (s+1) _ k (by omega)
theorem zob{B g:Nat}(hg:B<=g):∀(vs:List Value) (s:Nat) (w x:World),Below B w x->Below B w (x.setCells g s vs)
 | [],s,w,x,h=>h| v :: r,s,w,x,h=>zob hg r (s+1) w _ (h.setCell (by exact hg) v)
theorem zzy{w:World}{base B g n cap:Nat}{e:TypeId}{G:List G14}{K:List Kn}(h:w.ownsRow base e 14 (.slice (some ⟨g,0,none⟩) n cap) n (zbl G))(hv:VK B w G K)(hB:B<=w.heap.size):Kw w (some ⟨g,0,none⟩) K:=by
 intro i hi;have hl:=h.1;rw[zas]at hl;have hgl:=hv.len;have hz:=(h.lt g rfl).2;have hi':i<G.length:=by omega
 have hgi:=hv.get hi' hi;obtain⟨sa,sc,e,s⟩:=hv.at' i hi';have hc:∀j u,(zgt G[i])[j]?=some u->w.cell? ⟨g,0+i*14+j,none⟩=some u:=fun j u hu=>by have hj:=(List.getElem?_eq_some_iff.1 hu).1;rw[zb3]at hj;rw[Nat.zero_add];exact (h.cellAt _ (by omega)).trans ((zb1 G i hi' j hj).trans hu)
 rw[<-hgi];refine⟨g,0,sa,sc,rfl,hz,fun j u hu=>hc j u ?_,?_,s.up hB⟩
 ·unfold zgt;rw[List.getElem?_append_left (List.getElem?_eq_some_iff.1 hu).1];exact hu
 ·exact (hc 13 G[i].2 rfl).trans (by rw[e])
theorem zx6{w:World}{lo:Nat}{a:Option Addr}{n c:Nat}{xs:List Int}(h:IV w lo (.slice a n c) xs):Iw w a xs:=by
 rcases h with⟨g,cap,e,h1,h2,f,hc⟩|⟨e,rfl⟩
 ·injection e with e1 e2 e3;subst e1;exact fun i hi=>⟨g,0,rfl,h2,by rw[Nat.zero_add];exact f.got i hi hi⟩
 ·exact fun i hi=>by cases hi
theorem zq0{w:World}{a:Option Addr}(cap:Nat){K:List Kn}(h:Kw w a K)(hl:K.length<=1048576):
 Calls Tryz.prog 64 #[.slice a K.length cap] w fun e w'=>∃u c,e=.returned (.slice u K.length c)/\Iw w' u (zf8 K)/\Bw w w':=by
 obtain⟨j0,hj,jz0,jz1,jz2⟩:=info_parts zg9;have hli:(K.length:Int)<=1048576:=by omega
 go_enter Tryz.func64,Tryz.ntmps64;go_wp2;go_loopw [3,8] (fun s3 s8 wr=>∃k:Nat,s8=.int .i64 k/\k<=K.length/\Hid (wr.ownsRow w.heap.size 2 1 s3 k (zbc (zf8 (K.take k))))/\Bw w wr) (fun _ s8 _=>K.length-(intOf s8).toNat);case atStart=>exact⟨0,rfl,by omega,⟨rfl,.inl ⟨rfl,rfl⟩⟩,brf _ _⟩
 case round =>
  obtain⟨k,rfl,hk,HO,hbw⟩:=hrel;obtain⟨av,cv,hsv⟩:=za2 HO.out;subst hsv;by_cases hlt:k<K.length
  ·have hlt':(k:Int)<(K.length:Int):=(by omega);obtain⟨b,off,sa,sc,hak,hbl,d0,d13,sm⟩:=h.at hbw k hlt;subst hak;obtain⟨c,hc⟩:∃c,K[k]=c:=⟨_,rfl⟩;have HX:Hid (K[k]=c):=hc;rw[hc]at d0 d13 sm;clear hc;have e0:wr.cell? ⟨b,off+k*14,none⟩=some (.int .i64 c.id):=d0 0 _ rfl;have e1:wr.cell? ⟨b,off+k*14+1,none⟩=some (.int .i64 c.lf):=d0 1 _ rfl;have e2:wr.cell? ⟨b,off+k*14+2,none⟩=some (.int .i64 c.pl):=d0 2 _ rfl;have e3:wr.cell? ⟨b,off+k*14+3,none⟩=some (.int .i64 c.k):=d0 3 _ rfl;have e4:wr.cell? ⟨b,off+k*14+4,none⟩=some (.int .i64 c.wn):=d0 4 _ rfl;have e5:wr.cell? ⟨b,off+k*14+5,none⟩=some (.int .i64 c.th):=d0 5 _ rfl;have e6:wr.cell? ⟨b,off+k*14+6,none⟩=some (.int .i64 c.fl):=d0 6 _ rfl;have e7:wr.cell? ⟨b,off+k*14+7,none⟩=some (.int .i64 c.ac):=d0 7 _ rfl;have e8:wr.cell? ⟨b,off+k*14+8,none⟩=some (.int .i64 c.la):=d0 8 _ rfl;have e9:wr.cell? ⟨b,off+k*14+9,none⟩=some (.int .i64 c.og):=d0 9 _ rfl;have e10:wr.cell? ⟨b,off+k*14+10,none⟩=some (.int .i64 c.st):=d0 10 _ rfl;have e11:wr.cell? ⟨b,off+k*14+11,none⟩=some (.int .i64 c.fr):=d0 11 _ rfl;have e12:wr.cell? ⟨b,off+k*14+12,none⟩=some (.bool c.sl):=d0 12 _ rfl;have e13:wr.cell? ⟨b,off+k*14+13,none⟩=some (.slice sa c.xs.length sc):=d13;have HN:Hid (zbc (zf8 (K.take (k+1)))=zbc (zf8 (K.take k)) ++ zbc [c.id]):=(by show zbc (zf8 (K.take (k+1)))=_;rw[zdr K hlt,zgi,zbx,HX.out];rfl);go_upto_region 5 with (fail);obtain⟨y,hy,y0,b1⟩:=new1 wr 47 [.int .i64 c.id,.int .i64 c.lf,.int .i64 c.pl,.int .i64 c.k,.int .i64 c.wn,.int .i64 c.th,.int .i64 c.fl,.int .i64 c.ac,.int .i64 c.la,.int .i64 c.og,.int .i64 c.st,.int .i64 c.fr,.bool c.sl,.slice sa c.xs.length sc];rw[<-hy];clear hy;have f0:y.cell? ⟨wr.heap.size,0,none⟩=some (.int .i64 c.id):=y0.cell 0 _ rfl;have HO1:=zbd HO.out b1;have bwy:=zaa hbw b1;have zz:=bwy.size;go_wp2_with (first| (at_builtin;refine wpList_append_own _ rfl _ _ 45 rfl w.heap.size 2 j0 _ 1 8 Tryz.underlying45 hj jz0 jz1 jz2 rfl (by decide) _ _ _ rfl (HO1.alloc _) ⟨y.heap.size,0,none⟩ 1 1 [.int .i64 c.id] rfl rfl ?c1 ?c2 ?c3 ?c4 ?c5 ?c6;rotate_left 5;intro v' w' hown' hgr hnil;have hb2:=zig bwy hgr (fun g hg=>(HO.out.lt g hg).1)));case c1=>exact zen (by go_simp)
   case c2=>exact zdl [c.id]
   case c3=>unfold maxLen;omega
   case c4=>omega
   case c5=>simp;omega
   go_roundw;case rel=>exact⟨k+1,by go_num,by omega,(by rw[HN.out];exact hown'),hb2⟩
   case measure=>simp[intOf]<;>omega
  ·have e:k=K.length:=(by omega);subst e;have HE:Hid (IV wr w.heap.size (.slice av K.length cv) (zf8 K)):=(by have q:=HO.out;rw[List.take_length]at q;rw[show K.length=(zf8 K).length from (zbt K).symm]at q ⊢;exact zde q);go_wp2;go_ret;exact⟨av,cv,rfl,zx6 HE.out,hbw⟩
theorem z04{K:List Kn}(h:∀c ∈ K,0<=c.fl/\c.fl<=1000000000):0<=flK K/\flK K<=1000000000*(K.length:Int):=by
 induction K with
 | nil=>simp[flK]| cons c r ih =>have h1:=h c (List.mem_cons_self ..);have h2:=ih (fun x hx=>h x (List.mem_cons_of_mem _ hx));simp only[flK,List.length_cons];omega
theorem zq1{w:World}{a:Option Addr}(cap:Nat){K:List Kn}(h:Kw w a K)(hl:K.length<=40)(hb:∀c ∈ K,0<=c.fl/\c.fl<=1000000000):
 Calls Tryz.prog 130 #[.slice a K.length cap] w fun e w'=>e=.returned (.int .i64 (flK K))/\Bw w w':=by
 have hli:(K.length:Int)<=40:=by omega
 have HB:Hid (∀c ∈ K,0<=c.fl/\c.fl<=1000000000):=hb;clear hb;go_enter Tryz.func130,Tryz.ntmps130;go_wp2;go_loopw [3,8] (fun s3 s8 wr=>∃k:Nat,s8=.int .i64 k/\k<=K.length/\s3=.int .i64 (flK (K.take k))/\Bw w wr) (fun _ s8 _=>K.length-(intOf s8).toNat);case atStart=>exact⟨0,rfl,by omega,rfl,brf _ _⟩
 case round =>
  obtain⟨k,rfl,hk,rfl,hbw⟩:=hrel;by_cases hlt:k<K.length
  ·have hlt':(k:Int)<(K.length:Int):=(by omega);obtain⟨b,off,sa,sc,hak,hbl,d0,d13,sm⟩:=h.at hbw k hlt;subst hak;obtain⟨c,hc⟩:∃c,K[k]=c:=⟨_,rfl⟩;have HX:Hid (K[k]=c):=hc;rw[hc]at d0 d13 sm;clear hc;have e0:wr.cell? ⟨b,off+k*14,none⟩=some (.int .i64 c.id):=d0 0 _ rfl;have e1:wr.cell? ⟨b,off+k*14+1,none⟩=some (.int .i64 c.lf):=d0 1 _ rfl;have e2:wr.cell? ⟨b,off+k*14+2,none⟩=some (.int .i64 c.pl):=d0 2 _ rfl;have e3:wr.cell? ⟨b,off+k*14+3,none⟩=some (.int .i64 c.k):=d0 3 _ rfl;have e4:wr.cell? ⟨b,off+k*14+4,none⟩=some (.int .i64 c.wn):=d0 4 _ rfl;have e5:wr.cell? ⟨b,off+k*14+5,none⟩=some (.int .i64 c.th):=d0 5 _ rfl;have e6:wr.cell? ⟨b,off+k*14+6,none⟩=some (.int .i64 c.fl):=d0 6 _ rfl;have e7:wr.cell? ⟨b,off+k*14+7,none⟩=some (.int .i64 c.ac):=d0 7 _ rfl;have e8:wr.cell? ⟨b,off+k*14+8,none⟩=some (.int .i64 c.la):=d0 8 _ rfl;have e9:wr.cell? ⟨b,off+k*14+9,none⟩=some (.int .i64 c.og):=d0 9 _ rfl;have e10:wr.cell? ⟨b,off+k*14+10,none⟩=some (.int .i64 c.st):=d0 10 _ rfl;have e11:wr.cell? ⟨b,off+k*14+11,none⟩=some (.int .i64 c.fr):=d0 11 _ rfl;have e12:wr.cell? ⟨b,off+k*14+12,none⟩=some (.bool c.sl):=d0 12 _ rfl;have e13:wr.cell? ⟨b,off+k*14+13,none⟩=some (.slice sa c.xs.length sc):=d13;obtain⟨s,hs⟩:∃s,flK (K.take k)=s:=⟨_,rfl⟩;have HN:Hid (flK (K.take (k+1))=s+c.fl):=(by show flK (K.take (k+1))=_;rw[zdr K hlt,zhf,hs,HX.out];simp[flK]);have hs1:0<=s/\s<=1000000000*(k:Int):=(by have q:=z04 (K:=K.take k) (fun x hx=>HB.out x (List.mem_of_mem_take hx));rw[hs,List.length_take,Nat.min_eq_left hk]at q;exact q);have hc1:0<=c.fl/\c.fl<=1000000000:=(by have q:=HB.out K[k] (List.getElem_mem hlt);rw[HX.out]at q;exact q);have hwr:IntKind.i64.wrap (s+c.fl)=s+c.fl:=i64w;rw[hs];clear hs hs1 hc1;go_upto_region 5 with (fail);obtain⟨y,hy,y0,b1⟩:=new1 wr 47 [.int .i64 c.id,.int .i64 c.lf,.int .i64 c.pl,.int .i64 c.k,.int .i64 c.wn,.int .i64 c.th,.int .i64 c.fl,.int .i64 c.ac,.int .i64 c.la,.int .i64 c.og,.int .i64 c.st,.int .i64 c.fr,.bool c.sl,.slice sa c.xs.length sc];rw[<-hy];clear hy;have f0:y.cell? ⟨wr.heap.size,6,none⟩=some (.int .i64 c.fl):=y0.cell 6 _ rfl;go_wp2;go_roundw;case rel=>exact⟨k+1,by go_num,by omega,by rw[HN.out],zaa hbw b1⟩
   case measure=>simp[intOf]<;>omega
  ·have e:k=K.length:=(by omega);subst e;rw[List.take_length];go_wp2;go_ret;exact⟨rfl,hbw⟩
theorem zhh:(Tryz.prog.info? 47).map (fun i=>(i.zero,i.size,i.bytes))=some (some (.agg #[.int .i64 0,.int .i64 0,.int .i64 0,.int .i64 0,.int .i64 0,.int .i64 0,.int .i64 0,.int .i64 0,.int .i64 0,.int .i64 0,.int .i64 0,.int .i64 0,.bool false,.slice none 0 0]),14,128):=by kernel_rfl
def zzz(B:Nat)(w:World)(K:List Kn)(e:Ending)(w':World):Prop:=∃v G,e=.returned v/\VK B w G K/\w'.ownsRow w.heap.size 47 14 v K.length (zbl G)/\Bw w w'
theorem zoc{B:Nat}{w:World}{a:Option Addr}(cap:Nat){K:List Kn}(h:Kls B w a K)(hB:B<=w.heap.size)(hl:K.length<=1048576):
 Calls Tryz.prog 101 #[.slice a K.length cap] w (zzz B w K):=by
 obtain⟨i0,hi,hz0,hz1,hz2⟩:=info_parts zhh;have q:∀(w:World) (a:Option Addr) (n c n' c':Nat),(binOp .eql 29 (.slice a n c) (.slice none n' c')).run Tryz.prog w=.ok (.bool a.isNone) w:=fun w a n c n' c'=>Lib.run_eql_slice_nil w _ _ a n c n' c' Tryz.underlying29;cases a with
 | none =>
  have hx:K=[]:=by
   cases K with
   | nil=>rfl| cons x r=>obtain⟨b,off,sa,sc,e,_⟩:=h 0 (by simp);cases e
  subst hx;go_enter Tryz.func101,Tryz.ntmps101;go_wp2;go_ret;exact⟨_,[],rfl,⟨rfl,fun i hi=>by cases hi⟩,⟨rfl,.inl ⟨rfl,rfl⟩⟩,brf _ _⟩
 | some ad =>
  have HG:∃G,VK B w G K/\∀j u,(zbl G)[j]?=some u->(w.alloc (.cells #[] 47)).cell? (ad.add j)=some u:=by
   by_cases hn:0<K.length
   ·obtain⟨b,off,G,e,hb,hV,hN⟩:=h.vals hn;injection e with e;subst e;refine⟨G,hV,fun j u hj=>?_⟩;have hc:=hN j u hj;rw[zfg]at hc ⊢;exact ((zad w (.cells #[] 47)).cell (p:=⟨b,off+j,none⟩) (nlt hb hB)).trans hc
   ·obtain rfl:K=[]:=List.eq_nil_of_length_eq_zero (by omega);exact⟨[],⟨rfl,fun i hi=>by cases hi⟩,fun j u hj=>by cases hj⟩
  obtain⟨G,hV,hA⟩:=HG;have A:Hid (∀j u,(zbl G)[j]?=some u->(w.alloc (.cells #[] 47)).cell? (ad.add j)=some u):=hA;have hgl:=hV.len;have ON:Hid ((w.alloc (.cells #[] 47)).ownsRow w.heap.size 47 14 (.slice (some ⟨w.heap.size,0,none⟩) 0 0) 0 []):=⟨rfl,.inr ⟨w.heap.size,0,#[],rfl,nrf _,heap_alloc_new _ _,nrf _,by unfold maxLen;omega,rfl,rfl⟩⟩;have HV1:Hid (∀u ∈ zbl G,u.oneCell'=true):=hV.one;have HV:Hid (VK B w G K):=hV;have HL:Hid ((zbl G).length=K.length*14):=(by rw[zas,hgl];exact rfl);clear hA hV hgl;go_enter Tryz.func101,Tryz.ntmps101;go_wp2_with (at_builtin;refine wpList_append_own _ rfl _ _ 29 rfl w.heap.size 47 i0 _ 14 128 Tryz.underlying29 hi hz0 hz1 hz2 rfl (by decide) _ 0 [] rfl ON.out ad K.length cap (zbl G) rfl HL.out A.out HV1.out (by unfold maxLen;omega) (by omega) (by simp) ?_;intro v' w1 hown hgr hnil);go_ret;have hbw:Bw w w1:=((brf _ w).alloc (nrf _) _).grown hgr (by simp) (fun k hk=>Nat.le_of_eq (osi hk));rw[Nat.zero_add,List.nil_append]at hown;exact⟨v',G,rfl,HV.out,hown,hbw⟩
theorem zv0{w:World}{a b:Option Addr}(ca cb:Nat){xs ys:List Int}(h:Iw w a xs)(h':Iw w b ys)(hl:xs.length<=1048576)(hl':ys.length<=1048576):
 Calls Tryz.prog 131 #[.slice a xs.length ca,.slice b ys.length cb] w fun e w'=>e=.returned (.bool (decide (xs=ys)))/\Bw w w':=by
 by_cases hn:xs.length=ys.length;rotate_left
 ·have HD:Hid (decide (xs=ys)=false):=decide_eq_false (fun e=>hn (by rw[e]));have hn':((xs.length:Int) == (ys.length:Int))=false:=(by rw[beq_eq_false_iff_ne];omega);clear hn;go_enter Tryz.func131,Tryz.ntmps131;go_wp2;go_ret;exact⟨zef HD.out.symm,brf _ _⟩
 have HN:Hid (xs.length=ys.length):=hn;have hli:(xs.length:Int)<=1048576:=by omega
 rw[<-hn];clear hn hl';go_enter Tryz.func131,Tryz.ntmps131;go_wp2;go_loopw [13] (fun s wr=>∃k:Nat,s=.int .i64 k/\k<=xs.length/\Hid (∀j (h:j<xs.length) (h':j<ys.length),j<k->xs[j]=ys[j])/\Bw w wr) (fun s _=>xs.length-(intOf s).toNat);case atStart=>exact⟨0,rfl,by omega,(fun j h h' k=>by omega),brf _ _⟩
 case round =>
  obtain⟨k,rfl,hk,HE,hbw⟩:=hrel;by_cases hlt:k<xs.length
  ·have hlt':(k:Int)<(xs.length:Int):=(by omega);have hk2:k<ys.length:=(by have:=HN.out;omega);obtain⟨b1,o1,hak,hb1,c0⟩:=h.at hbw k hlt;obtain⟨b2,o2,hak2,hb2,c1⟩:=h'.at hbw k hk2;subst hak hak2;obtain⟨x,hx⟩:∃x,xs[k]=x:=⟨_,rfl⟩;obtain⟨y,hy⟩:∃y,ys[k]=y:=⟨_,rfl⟩;have HX:Hid (xs[k]=x):=hx;have HY:Hid (ys[k]=y):=hy;rw[hx]at c0;rw[hy]at c1;clear hx hy;by_cases he:x=y
   ·subst he;go_wp2;go_quiet (fail);go_wp2;go_roundw;case rel =>
     refine⟨k+1,by go_num,by omega,fun j hj hj' hjk=>?_,zan hbw _⟩;by_cases e:j=k
     ·subst e;rw[HX.out,HY.out]
     ·exact HE.out j hj hj' (by omega)
    case measure=>simp[intOf]<;>omega
   ·have he':(x == y)=false:=(by simp[he]);have HD:Hid (decide (xs=ys)=false):=decide_eq_false (fun e=>he (by have q:xs[k]?=ys[k]?:=(by rw[e]);rw[List.getElem?_eq_getElem hlt,List.getElem?_eq_getElem hk2,HX.out,HY.out]at q;exact osi q));clear he;go_wp2;go_quiet (fail);go_wp2;go_ret;exact⟨zef HD.out.symm,zan hbw _⟩
  ·have e:k=xs.length:=(by omega);subst e;have HD:Hid (decide (xs=ys)=true):=decide_eq_true (List.ext_getElem HN.out (fun j h1 h2=>HE.out j h1 h2 h1));go_wp2;go_ret;exact⟨zef HD.out.symm,hbw⟩
structure CpK (w:World) (lo:Nat) (sK:Value) (G:List G14) (K:List Kn):Prop where
 row:w.ownsRow lo 47 14 sK K.length (zbl G)
 fst:G.map Prod.fst=K
 ints:∀i (h:i<G.length),w.ownsRow lo 2 1 G[i].2 G[i].1.xs.length (zbc G[i].1.xs)
 sep:∀i (h':i<G.length) b,G[i].2.ownBlock=some b->b<w.heap.size/\∀j (hj:j<G.length),j≠i->G[j].2.ownBlock≠some b
 z:∀i (h:i<G.length),G[i].1.xs=[]->∃a,G[i].2=.slice a 0 0
theorem CpK.len{w:World}{lo:Nat}{sK:Value}{G:List G14}{K:List Kn}(h:CpK w lo sK G K):G.length=K.length:=by rw[<-h.fst,List.length_map]
theorem CpK.zero(w:World)(lo:Nat):CpK w lo (.slice none 0 0) [] []:=⟨⟨rfl,.inl ⟨rfl,rfl⟩⟩,rfl,(fun i h=>by cases h),(fun i h=>by cases h),(fun i h=>by cases h)⟩
theorem CpK.next{w w':World}{lo:Nat}{sK:Value}{G:List G14}{K:List Kn}(h:CpK w lo sK G K)(hb:Bw w w'):CpK w' lo sK G K :=
 ⟨zbd h.row hb,h.fst,fun i h1=>zbd (h.ints i h1) hb,fun i k b e=>⟨nlt (h.sep i k b e).1 hb.size,(h.sep i k b e).2⟩,h.z⟩
theorem CpK.set{w:World}{lo:Nat}{sK:Value}{G:List G14}{K:List Kn}(h:CpK w lo sK G K){b i:Nat}(v:Value)(hb:b<lo):CpK (w.setCell ⟨b,i,none⟩ v) lo sK G K :=
 ⟨za7 h.row hb,h.fst,fun i h1=>za7 (h.ints i h1) hb,fun i k b e=>⟨by simpa using (h.sep i k b e).1,(h.sep i k b e).2⟩,h.z⟩
theorem CpK.push{w w':World}{lo:Nat}{sK sK':Value}{G:List G14}{K:List Kn}{c:Kn}{v:Value}(h:CpK w lo sK G K)(hv:w.ownsRow lo 2 1 v c.xs.length (zbc c.xs))(hn:∀b,v.ownBlock=some b->b<w.heap.size/\∀j (hj:j<G.length),G[j].2.ownBlock≠some b)(hz:c.xs=[]->∃a,v=.slice a 0 0)(hr:w'.ownsRow lo 47 14 sK' (K.length+1) (zbl G ++ zgt (c,v)))(hg:w.grownBy w' sK.ownBlock):CpK w' lo sK' (G ++ [(c,v)]) (K ++ [c]):=by
 have hlen:=h.len;have hty:(2:TypeId)≠47:=by decide
 have keep:∀{u:Value} {m:Nat} {ys:List Value},w.ownsRow lo 2 1 u m ys->w'.ownsRow lo 2 1 u m ys:=fun hu=>hu.kept (row:=sK.ownBlock) hg (zb7 hu h.row hty);have atG:∀i (hi:i<(G ++ [(c,v)]).length),(∃h':i<G.length,(G ++ [(c,v)])[i]=G[i])\/(i=G.length/\(G ++ [(c,v)])[i]=(c,v)):=fun i hi=>by
  by_cases e:i<G.length
  ·exact .inl ⟨e,List.getElem_append_left e⟩
  ·have e2:i=G.length:=(by simp at hi;omega);refine .inr ⟨e2,?_⟩;subst e2;simp
 refine⟨?_,by rw[List.map_append,h.fst];rfl,fun i h1=>?_,fun i h2 b e=>?_,fun i h3=>?_⟩
 ·rw[zff,List.length_append];have e:zbl [(c,v)]=zgt (c,v):=(by simp[zbl]);rw[e];exact hr
 ·rcases atG i h1 with⟨k,e⟩|⟨k,e⟩
  ·rw[e];exact keep (h.ints i k)
  ·rw[e];exact keep hv
 ·rcases atG i h2 with⟨k,e1⟩|⟨k,e1⟩
  ·rw[e1]at e;obtain⟨s1,s2⟩:=h.sep i k b e;refine⟨nlt s1 hg.size,fun j hj hne=>?_⟩;rcases atG j hj with⟨k2,e2⟩|⟨k2,e2⟩
   ·rw[e2];exact s2 j k2 hne
   ·rw[e2];intro e';exact (hn b e').2 i k e
  ·rw[e1]at e;obtain⟨s1,s2⟩:=hn b e;refine⟨nlt s1 hg.size,fun j hj hne=>?_⟩;rcases atG j hj with⟨k2,e2⟩|⟨k2,e2⟩
   ·rw[e2];exact s2 j k2
   ·omega
 ·rcases atG i h3 with⟨k,e⟩|⟨k,e⟩
  ·rw[e];exact h.z i k
  ·rw[e];exact hz
theorem CpK.ko{w:World}{lo g cap:Nat}{G:List G14}{K:List Kn}(h:CpK w lo (.slice (some ⟨g,0,none⟩) K.length cap) G K):KO w lo w.heap.size g K.length (G.map (·.2)) K:=by
 have hg:=h.row.lt g rfl;have hty:(2:TypeId)≠47:=by decide
 have hlen:=h.len;have hat:∀i (h1:i<G.length) (h2:i<K.length),G[i].1=K[i]:=fun i h1 h2=>by have:(G.map Prod.fst)[i]?=K[i]?:=(by rw[h.fst]);rw[List.getElem?_map,List.getElem?_eq_getElem h1,List.getElem?_eq_getElem h2]at this;exact osi this
 have at1:∀i (hi:i<(G.map (·.2)).length),∃h':i<G.length,(G.map (·.2))[i]=G[i].2:=fun i hi=>⟨by simpa using hi,by simp⟩;refine⟨hg.1,hg.2,nrf _,by simp[hlen],nrf _,fun j hj=>⟨?_,h.row.frozenAt j⟩,fun i h1 h2=>?_,fun i h1 h2=>?_,fun i h2 e=>?_,fun i j h2 h3 hne b e e'=>?_⟩
 ·have hl:j<(zbl G).length:=(by rw[zas,hlen];exact hj);exact⟨_,(h.row.cellAt j hj).trans (List.getElem?_eq_getElem hl)⟩
 ·obtain⟨k,e⟩:=at1 i h2;have ek:=hat i k h1;have hc:∀j u,(zgt G[i])[j]?=some u->w.cell? ⟨g,i*14+j,none⟩=some u:=fun j u hu=>(by have hj:=(List.getElem?_eq_some_iff.1 hu).1;rw[zb3]at hj;exact (h.row.cellAt _ (by omega)).trans ((zb1 G i k j hj).trans hu));rw[e,<-ek];refine⟨fun j u hu=>hc j u ?_,hc 13 _ rfl⟩;unfold zgt;rw[List.getElem?_append_left (List.getElem?_eq_some_iff.1 hu).1];exact hu
 ·obtain⟨k,e⟩:=at1 i h2;rw[e,<-hat i k h1];exact (zde (h.ints i k)).io
 ·obtain⟨k,e1⟩:=at1 i h2;rw[e1]at e;have o:=h.ints i k;exact zbv o h.row hty g (zj4 o e) rfl
 ·obtain⟨k,e1⟩:=at1 i h2;obtain⟨k2,e2⟩:=at1 j h3;rw[e1]at e;rw[e2]at e';exact (h.sep i k b (zj4 (h.ints i k) e)).2 j k2 (fun e=>hne e.symm) (zj4 (h.ints j k2) e')
theorem CpK.kv{w:World}{lo n cap:Nat}{a:Option Addr}{G:List G14}{K:List Kn}(h:CpK w lo (.slice a n cap) G K)(hl:n=K.length):KV w lo w.heap.size (.slice a n cap) K:=by
 subst hl;rcases h.row.2 with⟨e,e2⟩|⟨g,cap',cur,e,_,_,hc,_⟩
 ·injection e with e1 _ e3;subst e1 e3;have hn:K=[]:=List.eq_nil_of_length_eq_zero e2;subst hn;exact .inr ⟨rfl,none,0,rfl⟩
 ·injection e with e1 _ e3;subst e1 e3;exact .inl ⟨g,cap,G.map (·.2),rfl,hc,h.ko⟩
def zbf(w:World)(now nx:Int)(T O P:List Q4)(L:List F8)(K:List Kn)(x:Value)(e:Ending)(w':World):Prop:=∃aT cT aO cO aP cP aL cL aK cK,e=.returned (.tuple #[zcf now aT T.length cT aO O.length cO aP P.length cP aL L.length cL aK K.length cK nx,x])/\Eng w' w.heap.size w'.heap.size (.slice aT T.length cT) (.slice aO O.length cO) (.slice aP P.length cP) (.slice aL L.length cL) (.slice aK K.length cK) T O P L K/\Bw w w'
theorem zlf{w:World}{lo hi:Nat}(h1:lo<=hi)(h2:hi<=w.heap.size):Eng w lo hi (.slice none 0 0) (.slice none 0 0) (.slice none 0 0) (.slice none 0 0) (.slice none 0 0) [] [] [] [] [] :=
 Eng.ofI (hrm:=fun _ _ _ kx=>z0y kx) ⟨lo,lo,lo,lo,lo,lo,⟨nrf _,nrf _,nrf _⟩,⟨h1,h1,h1⟩,LV.zero _ _,(fun b hb=>by rcases hb with e|e|e<;>cases e),TV.zero _ _ _ _ _,KV.zero _ _ _ _ _,.inl (nrf _),.inl (nrf _),.inl (nrf _),by omega,by omega,by omega⟩
theorem Lay.onlyO{u u':World}{b:Nat}{o:Option Nat}{vs:List Value}(h:Lay u b vs)(ho:OnlyO o u u')(hne:o≠some b):Lay u' b vs :=
 ⟨fun j v hv=>(ho.cell (p:=⟨b,j,none⟩) h.lt hne).trans (h.cell j v hv),fun k=>(ho.frozen (p:=⟨b,k,none⟩) h.lt hne).trans (h.free k),nlt h.lt ho.size⟩
def zv1:F8:=(60000,0,[])
def z18:G8:=(60000,0,.slice none 0 0)
theorem z19(w:World)(lo hi:Nat):IO w lo hi (.slice none 0 0) []:=⟨none,0,rfl,nrf _,.inl rfl⟩
theorem zv2{w:World}{base n:Nat}{t:TypeId}{v:Value}(h:w.ownsRow base t 3 v n (zdw (List.replicate n z18))):TV w base w.heap.size v (List.replicate n zv1):=by
 rcases h.2 with⟨rfl,rfl⟩|⟨g,cap,cur,rfl,hb,hg,hnc,_⟩
 ·exact .inr ⟨rfl,none,0,rfl⟩
 ·have hz:=h.lt g rfl;have hc:∀j u,(zdw (List.replicate n z18))[j]?=some u->w.cell? ⟨g,j,none⟩=some u:=fun j u hu=>(by have hj:=(List.getElem?_eq_some_iff.1 hu).1;rw[zdj,List.length_replicate]at hj;exact (h.cellAt j hj).trans hu);refine .inl ⟨g,cap,List.replicate n (.slice none 0 0),by rw[List.length_replicate],by rw[List.length_replicate];exact hnc,?_⟩;rw[List.length_replicate];refine⟨hb,hz.2,nrf _,by simp,by simp,fun j hj=>⟨?_,h.frozenAt j⟩,fun i h1 h2=>?_,fun i h1 h2=>?_,fun i h1=>?_,fun i j h1 h2 _ b hb'=>?_⟩
  ·obtain⟨u,hu⟩:∃u,(zdw (List.replicate n z18))[j]?=some u:=⟨_,List.getElem?_eq_getElem (by rw[zdj,List.length_replicate];exact hj)⟩;exact⟨u,hc j u hu⟩
  ·rw[List.length_replicate]at h1;obtain⟨q0,q1,q2⟩:=zik (List.replicate n z18) i (by rw[List.length_replicate];exact h1);rw[List.getElem_replicate]at q0 q1 q2 ⊢;rw[List.getElem_replicate];exact⟨hc _ _ q0,hc _ _ q1,hc _ _ q2⟩
  ·rw[List.getElem_replicate,List.getElem_replicate];exact z19 _ _ _
  ·rw[List.getElem_replicate];intro e;cases e
  ·rw[List.getElem_replicate]at hb';cases hb'
theorem zo7{y wr w':World}{g:Nat}{o:Obj}{row:Option Nat}(h:OnlyO (some g) y wr)(hg:(wr.alloc o).grownBy w' row)(hr:∀g',row=some g'->y.heap.size<=g'):OnlyO (some g) y w':=by have hz:=h.size;have b:Below y.heap.size wr w':=((brf wr.heap.size wr).alloc (nrf _) o).mono hz |>.grown hg (by simp;omega) hr;exact⟨b.os.trans h.os,b.tape.trans h.tape,b.output.trans h.output,ntr h.size b.size,fun k hk hn=>(b.block k hk).trans (h.block k hk hn)⟩
theorem zss{wr w':World}{g:Nat}{o:Obj}{row:Option Nat}{vs:List Value}(h:Lay wr g vs)(hg:(wr.alloc o).grownBy w' row)(hr:∀g',row=some g'->g'≠g):Lay w' g vs:=by have b:Bw wr (wr.alloc o):=zad _ _;have h1:=h.next b;have ho:OnlyO row (wr.alloc o) w':=⟨hg.os,hg.tape,hg.output,hg.size,fun k hk hn=>hg.block k hk (fun e=>hn e.symm)⟩;exact h1.onlyO ho (fun e=>hr g e rfl)
theorem zmi{w:World}{g:Nat}{u0 u1 u2:Value}(h0:w.cell? ⟨g,0,none⟩=some u0)(h1:w.cell? ⟨g,1,none⟩=some u1)(h2:w.cell? ⟨g,2,none⟩=some u2):∀j v,[u0,u1,u2][j]?=some v->w.cell? ((⟨g,0,none⟩:Addr).add j)=some v:=by
 intro j v hv;match j,hv with
 | 0,hv=>obtain rfl:u0=v:=by simpa using hv
         exact h0
 | 1,hv=>obtain rfl:u1=v:=by simpa using hv
         exact h1
 | 2,hv=>obtain rfl:u2=v:=by simpa using hv
         exact h2
def nwB(T:List Q4)(n:Int):Bool:=zbe T 0 && inQ 1 n 10
def nwT(T:List Q4)(n:Int):List Q4:=if nwB T n=true then zxm T 0 else []
def nwO(T:List Q4)(n:Int):List Q4:=if nwB T n=true then zxn T 0 else []
def nwP(T:List Q4)(n:Int):List Q4:=if nwB T n=true then zxo T 0 else []
def nwL(T:List Q4)(n:Int):List F8:=if nwB T n=true then List.replicate n.toNat zv1 else []
theorem zx7(k:Nat):zdw (List.replicate (k+1) z18)=zdw (List.replicate k z18) ++ [.int .i64 60000,.int .i64 0,.slice none 0 0]:=by rw[List.replicate_succ',zj3];rfl
def Kn.more(c:Kn)(n:Int):Kn:={ c with xs:=c.xs ++ [n] }
theorem zz0(G:List G14){i:Nat}(hi:i<G.length)(n:Int)(v:Value):(zbl G).set (i*14+13) v=zbl (G.set i (G[i].1.more n,v)):=by
 apply List.ext_getElem?;intro j;rw[List.getElem?_set];by_cases hj:j<G.length*14
 ·have h1:=zb1 (G.set i (G[i].1.more n,v)) (j/14) (by rw[List.length_set];omega) (j%14) (by omega);have h2:=zb1 G (j/14) (by omega) (j%14) (by omega);rw[show j/14*14+j%14=j by omega]at h1 h2;rw[h1,h2,List.getElem_set];by_cases e:i*14+13=j
  ·rw[if_pos e,if_pos (by rw[zas];omega),if_pos (by omega),show j%14=13 by omega];rfl
  ·rw[if_neg e];by_cases e2:i=j/14
   ·have e3:G[j/14]=G[i]:=(by congr 1;exact e2.symm);rw[if_pos e2,e3];have hlt:j%14<13:=(by omega);unfold zgt;rw[List.getElem?_append_left (by rw[Kn.len];exact hlt),List.getElem?_append_left (by rw[Kn.len];exact hlt)];rfl
   ·rw[if_neg e2]
 ·rw[if_neg (by omega),List.getElem?_eq_none (by rw[zas];omega),List.getElem?_eq_none (by rw[zas,List.length_set];omega)]
theorem CpK.grow{w w':World}{lo g cap:Nat}{G:List G14}{K:List Kn}(h:CpK w lo (.slice (some ⟨g,0,none⟩) K.length cap) G K){i:Nat}(hi:i<G.length){n:Int}{v:Value}(hv:w'.ownsRow lo 2 1 v (G[i].1.xs.length+1) (zbc G[i].1.xs ++ [.int .i64 n]))(hg:w.grownBy w' G[i].2.ownBlock)(hw:v.ownBlock=G[i].2.ownBlock\/v.ownBlock=some w.heap.size):
 CpK (w'.setCell ⟨g,i*14+13,none⟩ v) lo (.slice (some ⟨g,0,none⟩) K.length cap) (G.set i (G[i].1.more n,v)) (K.set i (G[i].1.more n)):=by
 have hlen:=h.len;have hty:(47:TypeId)≠2:=by decide
 have hty':(2:TypeId)≠47:=by decide
 have row1:w'.ownsRow lo 47 14 (.slice (some ⟨g,0,none⟩) K.length cap) K.length (zbl G):=h.row.kept hg (zb7 h.row (h.ints i hi) hty);have row2:=(row1.stored (i*14+13) v).1;rw[zz0 G hi n v]at row2;have far:∀{m:Nat} {u:Value} {ys:List Value},w'.ownsRow lo 2 1 u m ys->(w'.setCell ⟨g,i*14+13,none⟩ v).ownsRow lo 2 1 u m ys:=fun hu=>hu.kept (row:=some g) (zez _ _ _ _) (by
  cases ho:(‹Value›:Value).ownBlock with
  | none=>exact .inl rfl| some b=>exact .inr (fun e=>zbv hu row1 hty' b ho (congrArg some (osi e).symm)))
 have at1:∀j (hj:j<(G.set i (G[i].1.more n,v)).length),(j=i/\(G.set i (G[i].1.more n,v))[j]=(G[i].1.more n,v))\/(j≠i/\∃hj':j<G.length,(G.set i (G[i].1.more n,v))[j]=G[j]):=fun j hj=>by
  rw[List.getElem_set];rw[List.length_set]at hj;by_cases e:i=j
  ·exact .inl ⟨e.symm,if_pos e⟩
  ·exact .inr ⟨fun e'=>e e'.symm,hj,if_neg e⟩
 refine⟨by rw[List.length_set];exact row2,by rw[List.map_set,h.fst],fun j hj=>?_,fun j hj b e=>?_,fun j hj=>?_⟩;rotate_left 2
 ·rcases at1 j hj with⟨e,e1⟩|⟨e,hj',e1⟩
  ·rw[e1];intro e3;have e3:G[i].1.xs ++ [n]=[]:=e3;simp at e3
  ·rw[e1];exact h.z j hj'
 ·rcases at1 j hj with⟨e,e1⟩|⟨e,hj',e1⟩
  ·rw[e1];have q:=far hv;have e3:(G[i].1.more n).xs=G[i].1.xs ++ [n]:=rfl;show (w'.setCell ⟨g,i*14+13,none⟩ v).ownsRow lo 2 1 v (G[i].1.more n).xs.length (zbc (G[i].1.more n).xs);rw[e3,List.length_append,zbx];exact q
  ·rw[e1];refine far ((h.ints j hj').kept hg ?_);cases ho:G[j].2.ownBlock with
   | none=>exact .inl rfl| some b=>exact .inr (fun e'=>(h.sep j hj' b ho).2 i hi (fun e2=>e e2.symm) (by rw[<-e']))
 ·have zs:(w'.setCell ⟨g,i*14+13,none⟩ v).heap.size=w'.heap.size:=(by simp);have hgs:=hg.size;rw[zs];rcases at1 j hj with⟨e0,e1⟩|⟨e0,hj',e1⟩
  ·rw[e1]at e;have e:v.ownBlock=some b:=e;refine⟨(hv.lt b e).2,fun k hk hne=>?_⟩;rcases at1 k hk with⟨e2,_⟩|⟨e2,hk',e3⟩
   ·omega
   ·rw[e3];intro e4;rcases hw with hw|hw
    ·rw[hw]at e;exact (h.sep i hi b e).2 k hk' e2 e4
    ·rw[hw]at e;have h1:=(h.sep k hk' b e4).1;have h2:=osi e;omega
  ·rw[e1]at e;obtain⟨s1,s2⟩:=h.sep j hj' b e;refine⟨nlt s1 hgs,fun k hk hne=>?_⟩;rcases at1 k hk with⟨e2,e3⟩|⟨e2,hk',e3⟩
   ·rw[e3];intro e4;have e4:v.ownBlock=some b:=e4;rcases hw with hw|hw
    ·rw[hw]at e4;exact s2 i hi (fun e5=>e0 e5.symm) e4
    ·rw[hw]at e4;have h2:=osi e4;omega
   ·rw[e3];exact s2 k hk' hne
end Go.Proofs.YthiojkjcmhojoaaGreat
