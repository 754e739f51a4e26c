import Derived.Test.YtbmcgbmegcpgnaaGreatVQStore
import Derived.Laws.EntriesVeiled
set_option maxHeartbeats 8000000
set_option maxRecDepth 20000
set_option linter.unusedSimpArgs false
namespace Go.Proofs.YtbmcgbmegcpgnaaGreat
open Go.RowKit
structure SayD where
 act : Int
 params : QSl
 ps : List Int
def SayD.lie(d:SayD)(w:World)(g o:Nat):Prop:=CI w g o d.act/\CS w g (o+1) d.params/\Has .i64 w d.params.a d.params.n d.ps
theorem SayD.keeps:jw SayD.lie:=fun h b=>⟨h.1.step b,h.2.1.step b,h.2.2.step b⟩
theorem zkq(x:Int)(p:QSl)(hb:Nat)(act:Int)(w:World)(b:w.cell? ⟨hb,0,none⟩=some (.int .i64 act)):
 Calls Tryz.prog 157 #[.agg #[.int .i64 x,.slice p.a p.n p.c],.pointer (some ⟨hb,0,none⟩)] w fun e w'=>e=.returned (.bool (x==act))/\Below w.heap.size w w':=by
 have d:∀o,(w.alloc o).cell? ⟨hb,0,none⟩=some (.int .i64 act):=fun o=>za b (ze (zof _ _))
 clear b;go_enter Tryz.func157,Tryz.ntmps157
 go_wp2;go_ret;exact⟨rfl,ze (zof _ _)⟩
def zkr(S:List SayD)(act i:Int):Prop:=(i= -1/\∀s∈S,s.act≠act)\/∃(k:Nat) (s:SayD),i=k/\S[k]?=some s/\s.act=act
theorem zga(s:QSl)(S:List SayD)(hb:Nat)(act:Int)(w:World)(R:s.n<=100000)(B:QRow 2 SayD.lie w s S)(F:w.cell? ⟨hb,0,none⟩=some (.int .i64 act)):
 Calls Tryz.prog 156 #[.slice s.a s.n s.c,.func (.func 157) #[] #[.pointer (some ⟨hb,0,none⟩)]] w fun e w'=>∃i,e=.returned (.int .i64 i)/\zkr S act i/\Below w.heap.size w w':=by
 obtain⟨A,ee⟩:∃A,s.a=A:=⟨_,rfl⟩;have O:=hid B;have M:=hid B.1;have H0:=hid F;have t:Hid (Below w.heap.size w w):=zof _ _;rw[ee];have J:=hid ee;clear B F ee;go_enter Tryz.func156,Tryz.ntmps156
 go_wp2;go_loopw [8,5] (fun q _ wr=>∃k:Nat,k<=s.n/\q=.int .i64 k/\Hid (∀(j:Nat) (x:SayD),j<k->S[j]?=some x->x.act≠act)/\Hid (Below w.heap.size w wr)) (fun q _ _=>s.n-(intOf q).toNat)
 case atStart=>exact⟨0,zon _,rfl,fun j _ E=>absurd E (by omega),t⟩
 case round=>
  obtain⟨k,Q,rfl,hz,b⟩:=hrel;clear t;by_cases D:k<s.n
  ·obtain⟨g,off,x,m,h,⟨L,_⟩,⟨P,_⟩,_⟩:=zu (O.out.step SayD.keeps b.out) D;obtain rfl:A=some ⟨g,off,none⟩:=by rw[<-J.out];exact m
   have H:(k:Int)<(s.n:Int):=by omega
   have l:=hid (zkq x.act x.params hb act wr (za H0.out b.out));clear m;by_cases d:x.act=act
   ·have u:Hid (zkr S act k):=.inr ⟨k,x,rfl,h,d⟩;have r:(x.act==act)=true:=by simpa using d
    rw[r]at l;clear hz h d r;go_wp2_with fail
    refine l.out.mono ?_;rintro e I ⟨rfl,f⟩;have o:=hid (zh b.out f);clear l f b;go_wp2;go_ret;exact⟨k,rfl,u.out,o.out⟩
   ·have r:(x.act==act)=false:=by simpa using d
    have G:Hid (∀(j:Nat) (y:SayD),j<k+1->S[j]?=some y->y.act≠act):=fun j y E C=>by
     by_cases N:j=k
     ·subst N;rw[h]at C;cases C;exact d
     ·exact hz.out j y (by omega) C
    rw[r]at l;clear hz h d r;go_wp2_with fail
    refine l.out.mono ?_;rintro e I ⟨rfl,f⟩;have o:=hid (zh b.out f);clear l f b L P;go_wp2;go_roundw
    case rel=>exact⟨k+1,by omega,by go_num,G,o⟩
    case measure=>simp[intOf];omega
  ·have K:k=s.n:=by omega
   have u:Hid (zkr S act (-1)):=.inl ⟨rfl,fun x h=>by
    obtain⟨i,hi⟩:=List.getElem?_of_mem h;have:=(zok.1 hi).1;exact hz.out i x (by rw[M.out]at this;omega) hi⟩
   have o:=hid b.out;clear hz b;subst K;go_wp2;go_ret;exact⟨-1,rfl,u.out,o.out⟩
def zcQ(zs ps:List Int):Int:=if zs.length≠ps.length then 2 else if jQ zs ps then 0 else 6
def zdB(S:List SayD)(act:Int)(zs:List Int)(C:Int):Prop:=((∀s∈S,s.act≠act)/\C=5)\/∃s∈S,s.act=act/\C=zcQ zs s.ps
def zg5(S:List SayD)(act:Int)(zs:List Int)(w:World)(e:Ending)(w':World):Prop:=∃C,e=.returned (.int .i64 C)/\zdB S act zs C/\Below w.heap.size w w'
theorem zks(U:Nat)(s:QSl)(S:List SayD)(act:Int)(a:Option Addr)(n c:Nat)(zs:List Int)(w:World)(hn:s.n<=100000)(hz:n<=100000)(M:w.cell? ⟨U,2,none⟩=some (.slice s.a s.n s.c))(W:QRow 2 SayD.lie w s S)(ha:Has .u64 w a n zs):
 Calls Tryz.prog 140 #[.pointer (some ⟨U,0,none⟩),.agg #[.int .i64 act,.slice a n c]] w (zg5 S act zs w):=by
 obtain⟨E,hW⟩:∃E,E=w.alloc (.cells #[.int .i64 act,.slice a n c] 126):=⟨_,rfl⟩;obtain⟨hb,h0⟩:∃hb,hb=w.heap.size:=⟨_,rfl⟩;have z0:E.cell? ⟨hb,0,none⟩=some (.int .i64 act):=by rw[hW,h0];exact(zod _ _ _ _ rfl).trans rfl
 have z1:E.cell? ⟨hb,1,none⟩=some (.slice a n c):=by rw[hW,h0];exact(zod _ _ _ _ rfl).trans rfl
 have R:Hid (Below w.heap.size w E):=by rw[hW];exact ze (zof _ _)
 have D:=za M R.out;have k2:∀o,(w.alloc o).cell? ⟨U,2,none⟩=some (.slice s.a s.n s.c):=fun o=>za M (ze (zof _ _))
 have K:=hid (zga s S hb act E hn (W.step SayD.keeps R.out) z0);have Z:=hid hW;have X:=hid h0;have Y:=hid W;have V:=hid ha;clear hW h0 M W ha;have a1:∀(fn:Fn) (first cap:Array Value) (w:World),(Instr.makeFunc fn first cap).run Tryz.prog w=.ok (.func fn first cap) w:=fun _ _ _ _=>rfl
 go_enter Tryz.func140,Tryz.ntmps140
 go_wp2_with fail
 rw[<-Z.out,<-X.out];refine K.out.mono ?_;rintro e w1 ⟨i,rfl,hi,q⟩;have j:=hid (zh R.out q);have z0:=za z0 q;have z1:=za z1 q;have D:=za D q;clear K q R Z X k2;rcases hi with⟨rfl,P⟩|⟨k,x,rfl,Q,J⟩
 ·have HD:Hid (zdB S act zs 5):=.inl ⟨P,rfl⟩;clear P;go_wp2;go_ret;exact⟨5,rfl,HD.out,j.out⟩
 have hk:k<s.n:=by have:=(zok.1 Q).1;rw[Y.out.1]at this;exact this
 obtain⟨g,off,x',ea,B,⟨r0,_⟩,⟨T,_⟩,G⟩:=zu (Y.out.step SayD.keeps j.out) hk;obtain rfl:x=x':=by rw[Q]at B;exact zoq B
 have a0:(k:Int)<(s.n:Int):=by omega
 have d0:decide ((k:Int)<0)=false:=zoX (by omega)
 have y:=hid G;have r:=hid (zol Q);have A:=hid J;rw[ea]at D;have H:=zm z1;have L:=zm D;have N:=zm T;clear Q B J G;by_cases O:(n:Int)=(x.params.n:Int)
 ·have b1:((n:Int) !=(x.params.n:Int))=false:=by simpa using O
  have f:Hid (∀p:zq w1,Calls Tryz.prog 158 #[.slice a n c,.slice x.params.a x.params.n x.params.c] p.to fun e C=>e=.returned (.bool (jQ zs x.ps))/\Below p.to.heap.size p.to C):=fun p=>ze6 a x.params.a n x.params.n c x.params.c zs x.ps p.to (by omega) hz ((V.out.step j.out).step p.h) (y.out.step p.h)
  have t:Hid (zcQ zs x.ps=if jQ zs x.ps then 0 else 6):=by
   show zcQ zs x.ps=_;unfold zcQ;rw[if_neg (by have h1:=V.out.1;have M:=y.out.1;omega)]
  have HL:=hid O;clear O;go_wp2_with fail
  haveI inhB:∀w:World,Inhabited (zq w):=fun w=>⟨⟨w,zof _ _⟩⟩
  refine zi (by kernel_rfl) (by kernel_rfl) ?_
  repeat (go_big_quiet_step (fail))
  refine wpQuiet_nil ?_;intro wq l;obtain⟨⟨_,d⟩,b⟩:=l;subst b;have u:=hid (zh j.out d);have f:Hid (∀p:zq wq,Calls Tryz.prog 158 #[.slice a n c,.slice x.params.a x.params.n x.params.c] p.to fun e C=>e=.returned (.bool (jQ zs x.ps))/\Below p.to.heap.size p.to C):=fun p=>f.out ⟨p.to,zh d p.h⟩
  have z1:=za z1 d;have D:=za D d;have T:=za T d;clear H L N;have H:=zm z1;have L:=zm D;have N:=zm T;clear d j;cases F:jQ zs x.ps with
  |true=>
   have HD:Hid (zdB S act zs 0):=.inr ⟨x,r.out,A.out,by rw[t.out,F];rfl⟩
   rw[F]at f;clear F t;go_wp2_with fail
   haveI inhB:∀w:World,Inhabited (zq w):=fun w=>⟨⟨w,zof _ _⟩⟩
   refine zi (by kernel_rfl) (by kernel_rfl) ?_
   repeat (go_big_quiet_step (first|(go_at_call 158;exact zT _ (f.out _))))
   refine wpQuiet_nil ?_;intro wr l;obtain⟨⟨_,m⟩,b⟩:=l;subst b;have I:=hid (zh u.out m);clear m f u;go_wp2;go_ret;exact⟨0,rfl,HD.out,I.out⟩
  |false=>
   have HD:Hid (zdB S act zs 6):=.inr ⟨x,r.out,A.out,by rw[t.out,F];rfl⟩
   rw[F]at f;clear F t;go_wp2_with fail
   haveI inhB:∀w:World,Inhabited (zq w):=fun w=>⟨⟨w,zof _ _⟩⟩
   refine zi (by kernel_rfl) (by kernel_rfl) ?_
   repeat (go_big_quiet_step (first|(go_at_call 158;exact zT _ (f.out _))))
   refine wpQuiet_nil ?_;intro wr l;obtain⟨⟨_,m⟩,b⟩:=l;subst b;have I:=hid (zh u.out m);clear m f u;go_wp2;go_ret;exact⟨6,rfl,HD.out,I.out⟩
 ·have b1:((n:Int) !=(x.params.n:Int))=true:=by simpa using O
  have HD:Hid (zdB S act zs 2):=.inr ⟨x,r.out,A.out,by unfold zcQ;rw[if_pos (by have h1:=V.out.1;have M:=y.out.1;omega)]⟩
  clear O;go_wp2_with fail
  haveI inhB:∀w:World,Inhabited (zq w):=fun w=>⟨⟨w,zof _ _⟩⟩
  refine zi (by kernel_rfl) (by kernel_rfl) ?_
  repeat (go_big_quiet_step (fail))
  refine wpQuiet_nil ?_;intro wq l;obtain⟨⟨_,d⟩,b⟩:=l;subst b;have I:=hid (zh j.out d);clear d j;go_wp2;go_ret;exact⟨2,rfl,HD.out,I.out⟩
end Go.Proofs.YtbmcgbmegcpgnaaGreat
