import Derived.BigQuiet
import Derived.Handy
import Derived.WalkSmall
import Derived.Test.YthiojkjcmhojoaaGreatGtAC
namespace Go.Proofs.YthiojkjcmhojoaaGreat
set_option maxHeartbeats 1000000
open Go.ChangeShapes Go.WideShapes Go.ChangeAt Go.RowKit
set_option maxRecDepth 100000
set_option linter.all false
structure Only (b:Nat) (w w':World):Prop where
 os:w'.os=w.os
 tape:w'.tape=w.tape
 output:w'.output=w.output
 size:w.heap.size<=w'.heap.size
 block:∀k,k<w.heap.size->k≠b->w'.heap[k]?=w.heap[k]?
theorem Only.refl(b:Nat)(w:World):Only b w w:=⟨rfl,rfl,rfl,nrf _,fun _ _ _=>rfl⟩
theorem Only.trans{b:Nat}{u v w:World}(h:Only b u v)(k:Only b v w):Only b u w :=
 ⟨k.os.trans h.os,k.tape.trans h.tape,k.output.trans h.output,ntr h.size k.size,fun i hi hb=>(k.block i (nlt hi h.size) hb).trans (h.block i hi hb)⟩
theorem Only.of_below{b:Nat}{w w':World}(h:Bw w w'):Only b w w':=⟨h.os,h.tape,h.output,h.size,fun k hk _=>h.block k hk⟩
theorem Only.below{b B:Nat}{w w':World}(h:Only b w w')(hb:B<=b)(hB:B<=w.heap.size):Below B w w' :=
 ⟨h.os,h.tape,h.output,h.size,fun k hk=>h.block k (by omega) (by omega)⟩
theorem Only.drewN{b:Nat}{w w':World}(h:Only b w w')(n:Nat):Only b w (w'.drewN n):=⟨h.os,h.tape,h.output,h.size,h.block⟩
theorem Only.setCell{b:Nat}{w w':World}(h:Only b w w'){p:Addr}(hp:p.block=b)(u:Value):Only b w (w'.setCell p u):=by
 have hs:w'.heap.size=(w'.setCell p u).heap.size:=by simp
 have k:=(brf b w').setCell (p:=p) (by omega) u;refine⟨k.os.trans h.os,k.tape.trans h.tape,k.output.trans h.output,by rw[<-hs];exact h.size,fun i hi hb=>?_⟩;rw[Below.heap_setCell _ _ _ _ (by omega)];exact h.block i hi hb
theorem Only.cell{b:Nat}{w w':World}(h:Only b w w'){p:Addr}(hp:p.block<w.heap.size)(hb:p.block≠b):w'.cell? p=w.cell? p:=World.cell?_of_block (w:=w) (h.block p.block hp hb)
theorem Only.frozen{b:Nat}{w w':World}(h:Only b w w'){p:Addr}(hp:p.block<w.heap.size)(hb:p.block≠b):w'.frozen? p=w.frozen? p:=World.frozen?_of_block (w:=w) (h.block p.block hp hb)
structure Cur (B:Nat) (a0:Option Addr) (len cap b:Nat) (w:World):Prop where
 small:len<=4096
 lo:B<=b
 hi:b<w.heap.size
 val:∃i:Nat,∃h:Int,w.cell? ⟨b,0,none⟩=some (.slice a0 len cap)/\w.cell? ⟨b,1,none⟩=some (.int .i64 i)/\w.cell? ⟨b,2,none⟩=some (.int .i64 h)/\i<=len
 fr:∀j,w.frozen? ⟨b,j,none⟩=false
 row:∀i:Nat,i<len->∃(xb xo:Nat) (z:Int),a0=some ⟨xb,xo,none⟩/\xb<B/\w.cell? ⟨xb,xo+i,none⟩=some (.int .u8 z)/\0<=z/\z<=255
section
variable{B:Nat}{a0:Option Addr}{len cap b:Nat}{w w':World}
theorem Cur.mono(c:Cur B a0 len cap b w)(h:Bw w w'):Cur B a0 len cap b w' where
 small:=c.small
 lo:=c.lo
 hi:=nlt c.hi h.size
 val:=by obtain⟨i,v,h0,h1,h2,h3⟩:=c.val;have hb:=c.hi;exact⟨i,v,bct h hb h0,bct h hb h1,bct h hb h2,h3⟩
 fr:=fun j=>(h.frozen (by exact c.hi)).trans (c.fr j)
 row:=fun i hi=>by obtain⟨xb,xo,z,e,hx,hc,hz⟩:=c.row i hi;have h1:=c.lo;have h2:=c.hi;exact⟨xb,xo,z,e,hx,bct h (by omega) hc,hz⟩
theorem Cur.turn(c:Cur B a0 len cap b w)(o:Only b w w')(i:Nat)(h:Int)(h0:w'.cell? ⟨b,0,none⟩=some (.slice a0 len cap))(h1:w'.cell? ⟨b,1,none⟩=some (.int .i64 i))(h2:w'.cell? ⟨b,2,none⟩=some (.int .i64 h))(hi:i<=len)(fr:∀j,w'.frozen? ⟨b,j,none⟩=false):Cur B a0 len cap b w' where
 small:=c.small
 lo:=c.lo
 hi:=nlt c.hi o.size
 val:=⟨i,h,h0,h1,h2,hi⟩
 fr:=fr
 row:=fun i hi=>by obtain⟨xb,xo,z,e,hx,hc,hz⟩:=c.row i hi;have h1:=c.lo;have h2:=c.hi;exact⟨xb,xo,z,e,hx,(o.cell (by show xb<_;omega) (by show xb≠_;omega)).trans hc,hz⟩
theorem Cur.fin(c:Cur B a0 len cap b w)(i:Nat)(h:Int)(o:Only b w w')(h0:w'.cell? ⟨b,0,none⟩=some (.slice a0 len cap))(h1:w'.cell? ⟨b,1,none⟩=some (.int .i64 i))(h2:w'.cell? ⟨b,2,none⟩=some (.int .i64 h))(hi:i<=len)(fr:∀j,w'.frozen? ⟨b,j,none⟩=false):Cur B a0 len cap b w'/\Only b w w' :=
 ⟨c.turn o i h h0 h1 h2 hi fr,o⟩
end
theorem zvi(n:Int):bits .and .i64 n 255=n%256:=by
 have h255:(BitVec.ofInt 64 255).toNat=2 ^ 8-1:=by decide
 have key:(BitVec.ofInt 64 n &&& BitVec.ofInt 64 255).toNat=(n%((2 ^ 64:Nat):Int)).toNat%2 ^ 8:=by rw[BitVec.toNat_and,BitVec.toNat_ofInt,h255,Nat.and_two_pow_sub_one_eq_mod]
 show IntKind.i64.wrap ((BitVec.ofInt 64 n &&& BitVec.ofInt 64 255).toNat:Nat)=n%256;rw[key,IntKind.wrap_i64];omega
section
variable{B:Nat}{a0:Option Addr}{len cap b:Nat}
theorem zzf{w:World}(c:Cur B a0 len cap b w):
 Calls Tryz.prog 92 #[.pointer (some ⟨b,0,none⟩)] w fun e w'=>∃x:Int,e=.returned (.int .i64 x)/\(0<=x/\x<=255)/\Cur B a0 len cap b w'/\Only b w w':=by
 obtain⟨i,h,c0,c1,c2,hi⟩:=c.val;have ff:=c.fr;have hs:=c.small;have hand:=zvi;by_cases hlt:i<len
 ·obtain⟨xb,xo,z,rfl,hx,cz,z0,z1⟩:=c.row i hlt;have hlt':(i:Int)<(len:Int):=(by omega);have hne:xb≠b:=(by have:=c.lo;omega);go_enter Tryz.func92,Tryz.ntmps92;go_wp2;generalize wrap64 (wrap64 (h*6364136223846793005)+1442695040888963407)=h';go_quiet (fail);go_wp2;generalize bits BinOp.xor IntKind.i64 (h'/8589934592) (h'/35184372088832)=X;go_quiet (fail);go_wp2;go_quiet (fail);go_wp2;go_ret;refine⟨_,rfl,by omega,c.fin (i+1) h' ?_ ?_ ?_ ?_ (by omega) ?_⟩
  ·repeat' (first|exact Only.refl _ _|refine Only.drewN ?_ _|refine Only.setCell ?_ ?_ _|rfl)
  all_goals first|(go_simp;done)|(intro j;go_simp;done)
 ·have hge:¬(i:Int)<(len:Int):=(by omega);go_enter Tryz.func92,Tryz.ntmps92;go_wp2;generalize wrap64 (wrap64 (h*6364136223846793005)+1442695040888963407)=h';go_quiet (fail);go_wp2;generalize bits BinOp.xor IntKind.i64 (h'/8589934592) (h'/35184372088832)=X;go_quiet (fail);go_wp2;go_ret;refine⟨_,rfl,by omega,c.fin i h' ?_ ?_ ?_ ?_ (by omega) ?_⟩
  ·repeat' (first|exact Only.refl _ _|refine Only.drewN ?_ _|refine Only.setCell ?_ ?_ _|rfl)
  all_goals first|(go_simp;done)|(intro j;go_simp;done)
theorem ztx{w0 w:World}(c:Cur B a0 len cap b w)(o:Only b w0 w):
 Calls Tryz.prog 92 #[.pointer (some ⟨b,0,none⟩)] w fun e w'=>∃x:Int,e=.returned (.int .i64 x)/\(0<=x/\x<=255)/\Cur B a0 len cap b w'/\Only b w0 w':=by
 refine (zzf c).mono ?_;rintro e w' ⟨x,rfl,hx,c',o'⟩;exact⟨x,rfl,hx,c',o.trans o'⟩
theorem zar{w0 w:World}(n:Int)(c:Cur B a0 len cap b w)(o:Only b w0 w)(n0:1<=n)(n1:n<=9223372036854775807):
 Calls Tryz.prog 35 #[.pointer (some ⟨b,0,none⟩),.int .i64 n] w fun e w'=>∃x:Int,e=.returned (.int .i64 x)/\(0<=x/\x<n)/\Cur B a0 len cap b w'/\Only b w0 w':=by
 have hm:=fun y:Int=>Int.emod_nonneg y (show n≠0 by omega);have hl:=fun y:Int=>Int.emod_lt_of_pos y (show 0<n by omega);by_cases h:n<=256
 ·have hne:(n == 0)=false:=(by simp;omega);go_enter Tryz.func35,Tryz.ntmps35;go_wp2_with (go_at_call 92;refine (ztx (by assumption) (by assumption)).mono ?_;rintro e w1 ⟨x,rfl,hx,c',o'⟩);go_ret;exact⟨_,rfl,⟨hm _,hl _⟩,c',o'⟩
 ·have hne:(n == 0)=false:=(by simp;omega);go_enter Tryz.func35,Tryz.ntmps35;go_wp2_with (go_at_call 92;refine (ztx (by assumption) (by assumption)).mono ?_;rintro e w1 ⟨x,rfl,hx,c',o'⟩);go_ret;exact⟨_,rfl,⟨hm _,hl _⟩,c',o'⟩
theorem zh8{w0 w:World}(n:Int)(c:Cur B a0 len cap b w)(o:Only b w0 w)(n0:1<=n)(n1:n<=9223372036854775807):
 Calls Tryz.prog 36 #[.pointer (some ⟨b,0,none⟩),.int .i64 n] w fun e w'=>∃x:Bool,e=.returned (.bool x)/\Cur B a0 len cap b w'/\Only b w0 w':=by
 go_enter Tryz.func36,Tryz.ntmps36;go_wp2_with (go_at_call 35;refine (zar _ (by assumption) (by assumption) n0 n1).mono ?_;rintro e w1 ⟨x,rfl,hx,c',o'⟩);go_ret;exact⟨_,rfl,c',o'⟩
end
theorem zad(w:World)(o:Obj):Bw w (w.alloc o):=(brf _ _).alloc (nrf _) _
theorem Cur.alloc{B:Nat}{a0:Option Addr}{len cap b:Nat}{w:World}(c:Cur B a0 len cap b w)(o:Obj):Cur B a0 len cap b (w.alloc o):=c.mono (zad w o)
theorem Only.alloc{b:Nat}{w0 w:World}(h:Only b w0 w)(o:Obj):Only b w0 (w.alloc o):=h.trans (Only.of_below (zad w o))
theorem zvj{b:Nat}{w w1:World}{arr:Array Value}{t:TypeId}(hb:b<w.heap.size)(o:Only b (w.alloc (.cells arr t)) w1)(k:Nat):w1.cell? ⟨w.heap.size,k,none⟩=arr[k]?:=by rw[o.cell (by show w.heap.size<_;simp) (by show w.heap.size≠b;omega)];exact World.cell?_alloc_at _ _ _ _ rfl
def Row(B:Nat)(a0:Option Addr)(len:Nat)(w:World):Prop :=
 ∀i:Nat,i<len->∃(xb xo:Nat) (z:Int),a0=some ⟨xb,xo,none⟩/\xb<B/\w.cell? ⟨xb,xo+i,none⟩=some (.int .u8 z)/\0<=z/\z<=255
section
variable{B:Nat}{a0:Option Addr}{len:Nat}
theorem Row.mono{w w':World}(r:Row B a0 len w)(h:Below B w w'):Row B a0 len w':=fun i hi=>by obtain⟨xb,xo,z,e,hx,hc,hz⟩:=r i hi;exact⟨xb,xo,z,e,hx,bct h hx hc,hz⟩
theorem z1i(cap:Nat){w:World}(hs:len<=4096)(row:Row B a0 len w)(hB:B<=w.heap.size):
 Calls Tryz.prog 33 #[.slice a0 len cap] w fun e w'=>∃b,e=.returned (.pointer (some ⟨b,0,none⟩))/\w.heap.size<=b/\Cur B a0 len cap b w'/\Bw w w':=by
 go_enter Tryz.func33,Tryz.ntmps33;go_wp2;go_loop [3,4] (fun sh si=>∃(k:Nat) (v:Int),si=.int .i64 k/\k<=len/\sh=.int .i64 v) (fun _ i=>len-(intOf i).toNat);case atStart=>exact⟨0,_,rfl,by omega,rfl⟩
 case round =>
  obtain⟨k,v,rfl,hk,rfl⟩:=hrel;by_cases hlt:k<len
  ·obtain⟨xb,xo,z,rfl,hx,cz,z0,z1⟩:=row k hlt;have hlt':(k:Int)<(len:Int):=(by omega);go_wp2;go_round;case rel=>exact⟨k+1,_,by go_num,by omega,rfl⟩
   case measure=>simp[intOf]<;>omega
  ·have e:k=len:=(by omega);subst e;go_wp2;go_ret;refine⟨_,rfl,nrf _,⟨hs,hB,by simp,⟨0,v,?_,?_,?_,by omega⟩,?_,row.mono ((brf _ _).alloc hB _)⟩,zad _ _⟩;all_goals first|(go_simp;done)|(intro j;go_simp;done)
end
def zba(x:Int):Bool:=decide (0<=x) && decide (x<=1000000000000000)
def zdf(x:Int):Bool:=decide (0<=x) && decide (x<=1000000000000)
theorem zey(lo x hi:Int)(w:World):Calls Tryz.prog 48 #[.int .i64 x,.int .i64 lo,.int .i64 hi] w fun e w'=>e=.returned (.bool (decide (lo<=x) && decide (x<=hi)))/\w'=w:=by
 by_cases h1:lo<=x
 ·by_cases h2:x<=hi
  ·rw[decide_eq_true h1,decide_eq_true h2];go_enter Tryz.func48,Tryz.ntmps48;go_wp2;go_ret;exact⟨rfl,rfl⟩
  ·have h2':decide (x<=hi)=false:=decide_eq_false h2;rw[decide_eq_true h1,h2'];go_enter Tryz.func48,Tryz.ntmps48;go_wp2;go_ret;exact⟨rfl,rfl⟩
 ·have h1':decide (lo<=x)=false:=decide_eq_false h1;rw[h1'];go_enter Tryz.func48,Tryz.ntmps48;go_wp2;go_ret;exact⟨rfl,rfl⟩
theorem zlb(x:Int)(w:World):Calls Tryz.prog 89 #[.int .i64 x] w fun e w'=>e=.returned (.bool (zba x))/\w'=w:=by go_enter Tryz.func89,Tryz.ntmps89;go_wp2_with (first|(go_at_call 48;refine same1 (zey _ _ _ _) ?_));go_ret;exact⟨rfl,rfl⟩
theorem zgb(x:Int)(w:World):Calls Tryz.prog 144 #[.int .i64 x] w fun e w'=>e=.returned (.bool (zdf x))/\w'=w:=by go_enter Tryz.func144,Tryz.ntmps144;go_wp2_with (first|(go_at_call 48;refine same1 (zey _ _ _ _) ?_));go_ret;exact⟨rfl,rfl⟩
theorem zcq{w:World}{a:Addr}{u:Value}(v:Value)(h:w.cell? a=some u):(w.setCell a v).cell? a=some v:=World.cell?_setCell_same' w a v (by rw[h];rfl)
theorem zak{w:World}{b i j:Nat}{v:Value}(h:i≠j):(w.setCell ⟨b,i,none⟩ v).cell? ⟨b,j,none⟩=w.cell? ⟨b,j,none⟩:=by apply World.cell?_setCell_other;intro e;injection e with _ e _;exact h e
theorem zai{w w':World}(h:Bw w w'):∀b o:Nat,b<w.heap.size->w'.cell? ⟨b,o,none⟩=w.cell? ⟨b,o,none⟩:=fun b o hb=>h.cell (by exact hb)
theorem zem{w w':World}(h:Bw w w'):∀b o:Nat,b<w.heap.size->w'.frozen? ⟨b,o,none⟩=w.frozen? ⟨b,o,none⟩:=fun b o hb=>h.frozen (by exact hb)
theorem zam{w:World}{p q:Addr}{v:Value}(h:p.block≠q.block):(w.setCell p v).cell? q=w.cell? q:=World.cell?_setCell_other _ _ _ _ (fun e=>h (by rw[e]))
theorem zag{w x y:World}(h:Bw w x)(k:Bw x y):Bw w y:=h.trans (k.mono h.size)
def Cells(w:World):List (Nat × Nat × Value)->Prop
 | []=>True| (b,o,v) :: r=>(b<w.heap.size/\w.cell? ⟨b,o,none⟩=some v)/\Cells w r
theorem Cells.next{w w':World}(hb:Bw w w'):∀{cs:List (Nat × Nat × Value)},Cells w cs->Cells w' cs
 | [],_=>trivial| (b,o,v) :: r,⟨⟨h1,h2⟩,h⟩=>⟨⟨nlt h1 hb.size,(zai hb _ _ h1).trans h2⟩,Cells.next hb h⟩
structure OnlyO (o:Option Nat) (w w':World):Prop where
 os:w'.os=w.os
 tape:w'.tape=w.tape
 output:w'.output=w.output
 size:w.heap.size<=w'.heap.size
 block:∀k,k<w.heap.size->o≠some k->w'.heap[k]?=w.heap[k]?
theorem OnlyO.of_below{o:Option Nat}{w w':World}(h:Bw w w'):OnlyO o w w':=⟨h.os,h.tape,h.output,h.size,fun k hk _=>h.block k hk⟩
theorem OnlyO.of_only{g:Nat}{w w':World}(h:Only g w w'):OnlyO (some g) w w':=⟨h.os,h.tape,h.output,h.size,fun k hk hn=>h.block k hk (fun e=>hn (by rw[e]))⟩
theorem OnlyO.below{o:Option Nat}{B:Nat}{w w':World}(h:OnlyO o w w')(hb:∀g,o=some g->B<=g)(hB:B<=w.heap.size):Below B w w' :=
 ⟨h.os,h.tape,h.output,h.size,fun k hk=>h.block k (by omega) (fun e=>by have:=hb k e;omega)⟩
theorem OnlyO.trans{o:Option Nat}{w x y:World}(h:OnlyO o w x)(k:OnlyO o x y):OnlyO o w y:=⟨k.os.trans h.os,k.tape.trans h.tape,k.output.trans h.output,ntr h.size k.size,fun i hi hn=>(k.block i (nlt hi h.size) hn).trans (h.block i hi hn)⟩
theorem OnlyO.cell{o:Option Nat}{w w':World}(h:OnlyO o w w'){p:Addr}(hp:p.block<w.heap.size)(hb:o≠some p.block):w'.cell? p=w.cell? p:=World.cell?_of_block (w:=w) (h.block p.block hp hb)
theorem OnlyO.frozen{o:Option Nat}{w w':World}(h:OnlyO o w w'){p:Addr}(hp:p.block<w.heap.size)(hb:o≠some p.block):w'.frozen? p=w.frozen? p:=World.frozen?_of_block (w:=w) (h.block p.block hp hb)
theorem Cells.onlyO{w w':World}{o:Option Nat}(ho:OnlyO o w w'):∀{cs:List (Nat × Nat × Value)},(∀c ∈ cs,o≠some c.1)->Cells w cs->Cells w' cs
 | [],_,_=>trivial| (b,o',v) :: r,hg,⟨⟨h1,h2⟩,h⟩=>⟨⟨nlt h1 ho.size,(ho.cell h1 (hg (b,o',v) (List.mem_cons_self ..))).trans h2⟩,Cells.onlyO ho (fun c hc=>hg c (List.mem_cons_of_mem _ hc)) h⟩
def zbc(xs:List Int):List Value:=xs.map fun x=>.int .i64 x
theorem zbx(xs ys:List Int):zbc (xs ++ ys)=zbc xs ++ zbc ys:=List.map_append
theorem zfa(xs:List Int):(zbc xs).length=xs.length:=List.length_map ..
theorem zdl(xs:List Int):∀u ∈ zbc xs,u.oneCell'=true:=fun u hu=>by obtain⟨z,_,rfl⟩:=List.mem_map.1 hu;rfl
structure IFill (w:World) (g n:Nat) (xs:List Int) (k:Nat):Prop where
 any:∀j,j<n->(∃z:Int,w.cell? ⟨g,j,none⟩=some (.int .i64 z))/\w.frozen? ⟨g,j,none⟩=false
 got:∀i (h:i<xs.length),i<k->w.cell? ⟨g,i,none⟩=some (.int .i64 xs[i])
def IV(w:World)(lo:Nat)(v:Value)(xs:List Int):Prop :=
 (∃g cap,v=.slice (some ⟨g,0,none⟩) xs.length cap/\lo<=g/\g<w.heap.size/\IFill w g xs.length xs xs.length/\xs.length<=cap)\/(v=.slice none 0 0/\xs=[])
theorem IV.own{w:World}{lo:Nat}{v:Value}{xs:List Int}(h:IV w lo v xs){g:Nat}(hg:v.ownBlock=some g):lo<=g/\g<w.heap.size:=by
 rcases h with⟨g',cap,rfl,h1,h2,_⟩|⟨rfl,_⟩
 ·injection hg with hg;have e:g'=g:=hg;subst e;exact⟨h1,h2⟩
 ·cases hg
theorem IFill.mono{w w':World}{g n k:Nat}{xs:List Int}(f:IFill w g n xs k)(hb:Bw w w')(hg:g<w.heap.size):IFill w' g n xs k where
 any:=fun j hj=>⟨by obtain⟨z,hz⟩:=(f.any j hj).1;exact⟨z,(zai hb _ _ hg).trans hz⟩,(zem hb _ _ hg).trans (f.any j hj).2⟩
 got:=fun i hi hk=>(zai hb _ _ hg).trans (f.got i hi hk)
theorem IV.next{w w':World}{lo:Nat}{v:Value}{xs:List Int}(h:IV w lo v xs)(hb:Bw w w'):IV w' lo v xs:=by
 rcases h with⟨g,cap,rfl,h1,h2,f,hc⟩|h
 ·exact .inl ⟨g,cap,rfl,h1,nlt h2 hb.size,f.mono hb h2,hc⟩
 ·exact .inr h
theorem IV.onlyO{w w':World}{lo:Nat}{o:Option Nat}{v:Value}{xs:List Int}(h:IV w lo v xs)(hb:OnlyO o w w')(hv:∀g,v.ownBlock=some g->o≠some g):IV w' lo v xs:=by
 rcases h with⟨g,cap,rfl,h1,h2,f,hc⟩|h
 ·have hn:=hv g rfl;refine .inl ⟨g,cap,rfl,h1,nlt h2 hb.size,⟨fun j hj=>?_,fun i hi hk=>?_⟩,hc⟩
  ·obtain⟨⟨z,hz⟩,hf⟩:=f.any j hj;exact⟨⟨z,(hb.cell (by exact h2) (by exact hn)).trans hz⟩,(hb.frozen (by exact h2) (by exact hn)).trans hf⟩
  ·exact (hb.cell (by exact h2) (by exact hn)).trans (f.got i hi hk)
 ·exact .inr h
theorem IV.lower{w:World}{lo lo':Nat}{v:Value}{xs:List Int}(h:IV w lo v xs)(hl:lo'<=lo):IV w lo' v xs:=by
 rcases h with⟨g,cap,rfl,h1,h2,f,hc⟩|h
 ·exact .inl ⟨g,cap,rfl,ntr hl h1,h2,f,hc⟩
 ·exact .inr h
theorem zde{w:World}{base:Nat}{v:Value}{xs:List Int}{t:TypeId}(h:w.ownsRow base t 1 v xs.length (zbc xs)):IV w base v xs:=by
 rcases h.2 with⟨e,e2⟩|⟨g,cap,cur,rfl,hb,hg,hnc,_⟩
 ·exact .inr ⟨e,List.eq_nil_of_length_eq_zero e2⟩
 ·refine .inl ⟨g,cap,rfl,hb,(h.lt g rfl).2,⟨fun j hj=>⟨?_,h.frozenAt j⟩,fun i hi _=>?_⟩,hnc⟩
  ·refine⟨xs[j],(h.cellAt j (by omega)).trans ?_⟩;unfold zbc;rw[List.getElem?_map,List.getElem?_eq_getElem hj];rfl
  ·refine (h.cellAt i (by omega)).trans ?_;unfold zbc;rw[List.getElem?_map,List.getElem?_eq_getElem hi];rfl
theorem OnlyO.of_grown{row:Option Nat}{w w':World}(h:w.grownBy w' row):OnlyO row w w':=⟨h.os,h.tape,h.output,h.size,fun k hk hn=>h.block k hk (fun e=>hn e.symm)⟩
structure Kept (w:World) (cs:List (Nat × Nat × Value)) (bs:List Nat) (wr:World):Prop where
 cells:Cells wr cs
 free:∀b ∈ bs,b<wr.heap.size/\∀o:Nat,wr.frozen? ⟨b,o,none⟩=false
 hb:Bw w wr
theorem Kept.onlyO{w:World}{cs:List (Nat × Nat × Value)}{bs:List Nat}{wr w':World}{row:Option Nat}(h:Kept w cs bs wr)(hg:OnlyO row wr w')(hr:∀j,row=some j->w.heap.size<=j)(h1:∀c ∈ cs,row≠some c.1)(h2:∀b ∈ bs,row≠some b):Kept w cs bs w' :=
 ⟨Cells.onlyO hg h1 h.cells,fun b hb=>⟨nlt (h.free b hb).1 hg.size,fun o=>(hg.frozen (by exact (h.free b hb).1) (h2 b hb)).trans ((h.free b hb).2 o)⟩,h.hb.trans (hg.below hr h.hb.size)⟩
theorem Kept.next{w:World}{cs:List (Nat × Nat × Value)}{bs:List Nat}{wr w':World}(h:Kept w cs bs wr)(hg:Bw wr w'):Kept w cs bs w':=h.onlyO (row:=none) (OnlyO.of_below hg) (fun j e=>by cases e) (fun c _ e=>by cases e) (fun b _ e=>by cases e)
theorem Kept.drew{w:World}{cs:List (Nat × Nat × Value)}{bs:List Nat}{wr:World}(h:Kept w cs bs wr):Kept w cs bs wr.drew:=h.next (brf _ _).drew
def zwu(b o:Nat)(v:Value):List (Nat × Nat × Value)->List (Nat × Nat × Value)
 | []=>[]| (b',o',u) :: r=>(b',o',if b'=b/\o'=o then v else u) :: zwu b o v r
theorem Cells.put{wr:World}(b o:Nat)(v:Value):∀{cs:List (Nat × Nat × Value)},Cells wr cs->Cells (wr.setCell ⟨b,o,none⟩ v) (zwu b o v cs)
 | [],_=>trivial
 | (b',o',u) :: r,⟨⟨h1,h2⟩,h⟩=>by
  refine⟨⟨by simpa using h1,?_⟩,Cells.put b o v h⟩;by_cases e:b'=b/\o'=o
  ·rw[if_pos e];obtain⟨rfl,rfl⟩:=e;exact zcq _ h2
  ·rw[if_neg e];exact (World.cell?_setCell_other _ _ _ _ (fun k=>e (by injection k with k1 k2 _;exact⟨k1.symm,k2.symm⟩))).trans h2
theorem Kept.put{w:World}{cs:List (Nat × Nat × Value)}{bs:List Nat}{wr:World}(h:Kept w cs bs wr)(b o:Nat)(v:Value)(hb:w.heap.size<=b):Kept w (zwu b o v cs) bs (wr.setCell ⟨b,o,none⟩ v) :=
 ⟨h.cells.put b o v,fun b' hb'=>⟨by simpa using (h.free b' hb').1,fun o'=>by simpa using (h.free b' hb').2 o'⟩,h.hb.setCell (by exact hb) _⟩
theorem Kept.to{w:World}{cs cs':List (Nat × Nat × Value)}{bs:List Nat}{wr:World}(h:Kept w cs bs wr)(e:cs=cs'):Kept w cs' bs wr:=e ▸ h
theorem za7{w:World}{b i:Nat}{v u:Value}{base:Nat}{e:TypeId}{s n:Nat}{xs:List Value}(h:w.ownsRow base e s u n xs)(hb:b<base):(w.setCell ⟨b,i,none⟩ v).ownsRow base e s u n xs :=
 h.kept (row:=some b) ⟨rfl,rfl,rfl,by simp,fun k _ hk=>Below.heap_setCell _ _ _ _ (fun e=>hk (by simp[e]))⟩ (Or.inr (fun e=>by have:=(h.lt _ e).1;omega))
theorem za2{w:World}{b:Nat}{e:TypeId}{s n:Nat}{v:Value}{xs:List Value}(h:w.ownsRow b e s v n xs):∃a c,v=.slice a n c:=by
 rcases h.2 with⟨rfl,e⟩|⟨g1,cap,cur,rfl,_⟩
 ·exact⟨none,0,by rw[e]⟩
 ·exact⟨_,_,rfl⟩
theorem zbd{w w':World}{base:Nat}{e:TypeId}{s n:Nat}{u:Value}{xs:List Value}(h:w.ownsRow base e s u n xs)(hb:Bw w w'):w'.ownsRow base e s u n xs :=
 h.kept (row:=none) ⟨hb.os,hb.tape,hb.output,hb.size,fun k hk _=>hb.block k hk⟩ (by cases u.ownBlock with|none=>exact .inl rfl|some g=>exact .inr (fun e=>by cases e))
theorem zan{B:Nat}{w w':World}(h:Below B w w')(n:Nat):Below B w (w'.drewN n):=⟨h.os,h.tape,h.output,h.size,h.block⟩
theorem zg9:(Tryz.prog.info? 2).map (fun i=>(i.zero,i.size,i.bytes))=some (some (.int .i64 0),1,8):=by kernel_rfl
theorem zd7(w:World)(b g:Nat)(hg:g=w.heap.size)(hb:b<=w.heap.size)(t:TypeId):(w.alloc (.cells #[] t)).ownsRow b t 1 (.slice (some ⟨g,0,none⟩) 0 0) 0 []:=by subst hg;exact⟨rfl,.inr ⟨w.heap.size,0,#[],rfl,hb,heap_alloc_new _ _,nrf _,by unfold maxLen;omega,rfl,rfl⟩⟩
theorem zen{w:World}{g:Nat}{u:Value}(h:w.cell? ⟨g,0,none⟩=some u):∀j v,[u][j]?=some v->w.cell? ((⟨g,0,none⟩:Addr).add j)=some v:=by
 intro j v hv;match j,hv with
 | 0,hv=>obtain rfl:u=v:=by simpa using hv
         exact h
section
variable{w:World}{b b':Nat}{e e':TypeId}{s s' n n':Nat}{v v':Value}{xs xs':List Value}
theorem zbv(h:w.ownsRow b e s v n xs)(h':w.ownsRow b' e' s' v' n' xs')(he:e≠e'):∀g,v.ownBlock=some g->v'.ownBlock≠some g:=by
 intro g hg hg';rcases h.2 with⟨rfl,_⟩|⟨g1,cap,cur,rfl,_,hc,_⟩
 ·cases hg
 ·rcases h'.2 with⟨rfl,_⟩|⟨g2,cap',cur',rfl,_,hc',_⟩
  ·cases hg'
  ·have e1:g1=g:=osi hg;have e2:g2=g:=osi hg';subst e1;subst e2;rw[hc]at hc';injection hc' with hc';injection hc' with _ k _;exact he k
theorem zb7(h:w.ownsRow b e s v n xs)(h':w.ownsRow b' e' s' v' n' xs')(he:e≠e'):v.ownBlock=none\/v.ownBlock≠v'.ownBlock:=by
 cases ho:v.ownBlock with
 | none=>exact .inl rfl| some g=>exact .inr (fun k=>zbv h h' he g ho k.symm)
end
theorem zez(w:World)(b i:Nat)(v:Value):w.grownBy (w.setCell ⟨b,i,none⟩ v) (some b) :=
 ⟨rfl,rfl,rfl,by simp,fun k _ hk=>Below.heap_setCell _ _ _ _ (fun e=>hk (by simp[e]))⟩
theorem zbr(lo x hi:Int)(w:World):Calls Tryz.prog 62 #[.int .i64 x,.int .i64 lo,.int .i64 hi] w fun e w'=>e=.returned (.bool (decide (lo<=x) && decide (x<=hi)))/\w'=w:=by
 by_cases h1:lo<=x
 ·by_cases h2:x<=hi
  ·rw[decide_eq_true h1,decide_eq_true h2];go_enter Tryz.func62,Tryz.ntmps62;go_wp2;go_ret;exact⟨rfl,rfl⟩
  ·have h2':decide (x<=hi)=false:=decide_eq_false h2;rw[decide_eq_true h1,h2'];go_enter Tryz.func62,Tryz.ntmps62;go_wp2;go_ret;exact⟨rfl,rfl⟩
 ·have h1':decide (lo<=x)=false:=decide_eq_false h1;rw[h1'];go_enter Tryz.func62,Tryz.ntmps62;go_wp2;go_ret;exact⟨rfl,rfl⟩
theorem zpx(x:Int)(w:World):Calls Tryz.prog 87 #[.int .i64 x] w fun e w'=>e=.returned (.bool (zba x))/\w'=w:=by go_enter Tryz.func87,Tryz.ntmps87;go_wp2_with (first|(go_at_call 62;refine same1 (zbr _ _ _ _) ?_));go_ret;exact⟨rfl,rfl⟩
theorem zgv(x:Int)(w:World):Calls Tryz.prog 191 #[.int .i64 x] w fun e w'=>e=.returned (.bool (zdf x))/\w'=w:=by go_enter Tryz.func191,Tryz.ntmps191;go_wp2_with (first|(go_at_call 62;refine same1 (zbr _ _ _ _) ?_));go_ret;exact⟨rfl,rfl⟩
def zhj:Value->Option Nat
 | .slice (some p) _ (_+1)=>some p.block| _=>none
theorem za6{a:Option Addr}{n c g:Nat}(h:zhj (.slice a n c)=some g):(Value.slice a n c).ownBlock=some g:=by
 cases a with
 | none=>cases h
 | some p=>cases c with
  | zero=>cases h| succ c=>exact h
theorem zwv(a:Option Addr)(n:Nat):zhj (.slice a n 0)=none:=by cases a<;>rfl
theorem mul_bd(x y:Int)(hx:0<=x/\x<=4294967295)(hy:0<=y/\y<=4294967295):0<=x*y/\x*y<=18446744065119617025 :=
 ⟨Int.mul_nonneg hx.1 hy.1,by have:=Int.mul_le_mul hx.2 hy.2 hy.1 (by omega:(0:Int)<=4294967295);omega⟩
theorem zww(x0 x1 y0 y1:Int):
 (x0+4294967296*x1)*(y0+4294967296*y1)=x0*y0+4294967296*(x0*y1+x1*y0)+18446744073709551616*(x1*y1):=by
 grind
def zlm(a b c:Int):Bool:=decide (0<=a/\0<=b/\1<=c/\a*b/c<=9223372036854775807)
def mdQ(a b c:Int):Int:=if zlm a b c then a*b/c else 0
theorem md_out{a b c:Int}(h:a<0\/b<0\/c<1):zlm a b c=false/\mdQ a b c=0:=by
 have:zlm a b c=false:=by unfold zlm;exact decide_eq_false (by omega)
 exact⟨this,by unfold mdQ;rw[this];rfl⟩
theorem zr3(A B C:Nat):(A:Int)*(B:Int)/(C:Int)=((A*B/C:Nat):Int):=by simp
theorem md_yes{A B C:Nat}(hc:1<=C)(h:A*B/C<=9223372036854775807):zlm A B C=true/\mdQ A B C=((A*B/C:Nat):Int):=by
 have:zlm A B C=true:=by unfold zlm;rw[zr3];generalize A*B/C=Q at *;exact decide_eq_true (by omega)
 exact⟨this,by unfold mdQ;rw[this,zr3];rfl⟩
theorem md_no{A B C:Nat}(h:9223372036854775807<A*B/C):zlm A B C=false/\mdQ A B C=0:=by
 have:zlm A B C=false:=by unfold zlm;rw[zr3];generalize A*B/C=Q at *;exact decide_eq_false (by omega)
 exact⟨this,by unfold mdQ;rw[this];rfl⟩
theorem zr4{k:IntKind}{a b:Int}{f g:Bool}(h:a=b)(h':f=g):Ending.returned (.tuple #[.int k a,.bool f])=.returned (.tuple #[.int k b,.bool g]):=by rw[h,h']
theorem ziy(x:Int)(h₀:0<=x)(h₁:x<18446744073709551616):bits .and .u64 x 4294967295=x%4294967296:=by have:=bits_mask .u64 64 (by decide) zpt 32 (by decide) x h₀ (by simpa using h₁);simpa using this
theorem zwx(x y:Int)(hx:0<=x/\x<=4294967295)(hy:0<=y/\y<=2147483647):0<=x*y/\x*y<=9223372030412324865 :=
 ⟨Int.mul_nonneg hx.1 hy.1,by have:=Int.mul_le_mul hx.2 hy.2 hy.1 (by omega:(0:Int)<=4294967295);omega⟩
theorem z1j(x y:Int)(hx:0<=x/\x<=2147483647)(hy:0<=y/\y<=2147483647):0<=x*y/\x*y<=4611686014132420609 :=
 ⟨Int.mul_nonneg hx.1 hy.1,by have:=Int.mul_le_mul hx.2 hy.2 hy.1 (by omega:(0:Int)<=2147483647);omega⟩
theorem zoj(A B C:Nat)(w:World)(a1:A<=9223372036854775807)(b1:B<=9223372036854775807)(c0:1<=C)(c1:C<=9223372036854775807):
 Calls Tryz.prog 168 #[.int .i64 A,.int .i64 B,.int .i64 C] w fun e w'=>e=.returned (.tuple #[.int .i64 (mdQ A B C),.bool (zlm A B C)])/\w'=w:=by
 have mA:=ziy A (by omega) (by omega);have mB:=ziy B (by omega) (by omega);have hx0:0<=(A:Int)%4294967296/\(A:Int)%4294967296<=4294967295:=by omega
 have hx1:0<=(A:Int)/4294967296/\(A:Int)/4294967296<=2147483647:=by omega
 have hy0:0<=(B:Int)%4294967296/\(B:Int)%4294967296<=4294967295:=by omega
 have hy1:0<=(B:Int)/4294967296/\(B:Int)/4294967296<=2147483647:=by omega
 have h00:=mul_bd ((A:Int)%4294967296) ((B:Int)%4294967296) hx0 hy0;have h01:=zwx ((A:Int)%4294967296) ((B:Int)/4294967296) hx0 hy1;have h10:=zwx ((B:Int)%4294967296) ((A:Int)/4294967296) hy0 hx1;rw[Int.mul_comm]at h10;have h11:=z1j ((A:Int)/4294967296) ((B:Int)/4294967296) hx1 hy1;have mM:=ziy ((A:Int)%4294967296*((B:Int)/4294967296)+(A:Int)%4294967296*((B:Int)%4294967296)/4294967296) (by omega) (by omega);obtain⟨HI,hHI⟩:∃HI:Nat,HI=A*B/18446744073709551616:=⟨_,rfl⟩;obtain⟨LO,hLO⟩:∃LO:Nat,LO=A*B%18446744073709551616:=⟨_,rfl⟩;have hl:LO<=18446744073709551615:=by omega
 have HN:Hid (A*B=HI*18446744073709551616+LO):=by show _=_;omega
 have cast:((A*B:Nat):Int)=(A:Int)*B:=by simp
 have parts:(A:Int)*B=_:=(show (A:Int)*B=((A:Int)%4294967296+4294967296*((A:Int)/4294967296))*((B:Int)%4294967296+4294967296*((B:Int)/4294967296)) by congr 1<;>omega).trans (zww _ _ _ _);have hW:IntKind.u64.wrap ((A:Int)*(B:Int))=(LO:Int):=by rw[IntKind.wrap_u64,<-cast];omega
 have hE:(A:Int)/4294967296*((B:Int)/4294967296)+((A:Int)%4294967296*((B:Int)/4294967296)+(A:Int)%4294967296*((B:Int)%4294967296)/4294967296)/4294967296+((A:Int)/4294967296*((B:Int)%4294967296)+((A:Int)%4294967296*((B:Int)/4294967296)+(A:Int)%4294967296*((B:Int)%4294967296)/4294967296)%4294967296)/4294967296=(HI:Int):=by rw[<-cast]at parts;have e:(HI:Int)=((A*B:Nat):Int)/18446744073709551616:=(by omega);rw[e,parts];clear parts e cast hHI hLO HN hW;generalize (A:Int)%4294967296*((B:Int)%4294967296)=z00 at *;generalize (A:Int)%4294967296*((B:Int)/4294967296)=z01 at *;generalize (A:Int)/4294967296*((B:Int)%4294967296)=z10 at *;generalize (A:Int)/4294967296*((B:Int)/4294967296)=z11 at *;omega
 clear cast parts hHI hLO;by_cases hge:C<=HI
 ·go_enter Tryz.func168,Tryz.ntmps168;go_wp2;go_ret2;have h:=md_no (A:=A) (B:=B) (C:=C) (by rw[HN.out];exact zwt (by omega) hge);exact⟨zr4 h.2.symm h.1.symm,rfl⟩
 ·go_enter Tryz.func168,Tryz.ntmps168;go_wp2;clear mA mB hx0 hx1 hy0 hy1 h00 h01 h10 h11 mM hW hE;go_loop [17,19,20,21] (fun sl sr sq si=>∃i lo q r:Nat,sl=.int .u64 lo/\sr=.int .u64 r/\sq=.int .u64 q/\si=.int .i64 i/\i<=64/\zhn HI LO C i lo q r) (fun _ _ _ i=>64-(intOf i).toNat);case atStart=>exact⟨0,LO,0,HI,rfl,rfl,rfl,rfl,by omega,zpv (by omega) (by omega)⟩
  case round =>
   obtain⟨i,lo,q,r,rfl,rfl,rfl,rfl,hi,hst⟩:=hrel;by_cases h64:i<64
   ·have hq:=zvf h64 (by omega) (by omega) hst;have hlo:=zwr hi hst;have hr:=hst.2.2;have hor:bits .or .u64 ((r:Int)*2) ((lo:Int)/9223372036854775808)=(r:Int)*2+(lo:Int)/9223372036854775808:=zwq _ _ (by omega) (by omega) (by omega) (by omega) (by omega);have hor1:bits .or .u64 ((q:Int)*2) 1=(q:Int)*2+1:=zwq _ _ (by omega) (by omega) (by omega) (by omega) (by omega);by_cases hc:C<=2*r+lo/9223372036854775808
    ·go_wp2;go_round;case rel=>exact⟨i+1,lo*2%18446744073709551616,2*q+1,2*r+lo/9223372036854775808-C,by first|go_num|(rw[IntKind.wrap_u64];go_num),by go_num,by go_num,by go_num,by omega,zvg h64 hst hc⟩
     case measure=>simp[intOf]<;>omega
    ·go_wp2;go_round;case rel=>exact⟨i+1,lo*2%18446744073709551616,2*q,2*r+lo/9223372036854775808,by first|go_num|(rw[IntKind.wrap_u64];go_num),by go_num,by go_num,by go_num,by omega,zws h64 hst (by omega)⟩
     case measure=>simp[intOf]<;>omega
   ·have e:i=64:=(by omega);subst e;have Hq:Hid (q=A*B/C):=(by have:=zvh hst;rw[<-HN.out]at this;exact this);have hq1:q<=18446744073709551615:=(by have:=ztw (by omega) (by omega) (by omega) hst;omega);by_cases hbig:9223372036854775807<q
    ·go_wp2;go_ret2;have h:=md_no (A:=A) (B:=B) (C:=C) (by rw[<-Hq.out];exact hbig);exact⟨zr4 h.2.symm h.1.symm,rfl⟩
    ·go_wp2;go_ret2;have h:=md_yes (A:=A) (B:=B) (C:=C) c0 (by rw[<-Hq.out];omega);exact⟨zr4 (by rw[h.2,<-Hq.out]) h.1.symm,rfl⟩
theorem zm6(a b c:Int)(w:World)(h:a<0\/b<0\/c<1):
 Calls Tryz.prog 168 #[.int .i64 a,.int .i64 b,.int .i64 c] w fun e w'=>e=.returned (.tuple #[.int .i64 (mdQ a b c),.bool (zlm a b c)])/\w'=w:=by
 have h':=md_out h;rw[h'.1,h'.2];clear h';by_cases ha:a<0
 ·go_enter Tryz.func168,Tryz.ntmps168;go_wp2;go_ret2;exact⟨rfl,rfl⟩
 ·by_cases hb:b<0
  ·go_enter Tryz.func168,Tryz.ntmps168;go_wp2;go_ret2;exact⟨rfl,rfl⟩
  ·have hc:c<1:=(by omega);go_enter Tryz.func168,Tryz.ntmps168;go_wp2;go_ret2;exact⟨rfl,rfl⟩
theorem zfi(a b c:Int)(w:World)(a1:a<=9223372036854775807)(b1:b<=9223372036854775807)(c1:c<=9223372036854775807):
 Calls Tryz.prog 168 #[.int .i64 a,.int .i64 b,.int .i64 c] w fun e w'=>e=.returned (.tuple #[.int .i64 (mdQ a b c),.bool (zlm a b c)])/\w'=w:=by
 by_cases h:a<0\/b<0\/c<1
 ·exact zm6 a b c w h
 ·obtain⟨A,rfl⟩:=Int.eq_ofNat_of_zero_le (show 0<=a by omega);obtain⟨B,rfl⟩:=Int.eq_ofNat_of_zero_le (show 0<=b by omega);obtain⟨C,rfl⟩:=Int.eq_ofNat_of_zero_le (show 0<=c by omega);exact zoj A B C w (by omega) (by omega) (by omega) (by omega)
theorem zty{w w':World}{b base:Nat}{e:TypeId}{s n:Nat}{u:Value}{xs:List Value}(h:w.ownsRow base e s u n xs)(o:Only b w w')(hb:b<base):w'.ownsRow base e s u n xs :=
 h.kept (row:=some b) ⟨o.os,o.tape,o.output,o.size,fun k hk hn=>o.block k hk (fun e=>hn (by rw[e]))⟩ (Or.inr (fun e=>by have:=(h.lt _ e).1;omega))
theorem Cur.under{B:Nat}{a0:Option Addr}{len cap b V:Nat}{w w':World}(c:Cur B a0 len cap b w)(h:Below V w w')(hb:b<V):Cur B a0 len cap b w' where
 small:=c.small
 lo:=c.lo
 hi:=nlt c.hi h.size
 val:=by obtain⟨i,v,h0,h1,h2,h3⟩:=c.val;exact⟨i,v,bct h hb h0,bct h hb h1,bct h hb h2,h3⟩
 fr:=fun j=>(h.frozen (by exact hb)).trans (c.fr j)
 row:=fun i hi=>by obtain⟨xb,xo,z,e,hx,hc,hz⟩:=c.row i hi;have:=c.lo;exact⟨xb,xo,z,e,hx,(h.cell (by show xb<V;omega)).trans hc,hz⟩
end Go.Proofs.YthiojkjcmhojoaaGreat
