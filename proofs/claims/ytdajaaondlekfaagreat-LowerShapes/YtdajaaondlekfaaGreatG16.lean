import Derived.Test.YtdajaaondlekfaaGreatVQRules2
import Derived.Test.YtdajaaondlekfaaGreatVQR4
set_option maxHeartbeats 16000000
set_option maxRecDepth 20000
set_option linter.unusedSimpArgs false
namespace Go.Proofs.YtdajaaondlekfaaGreat
open Go.RowKit
theorem zj0(n:Int)(h: -9223372036854775808<=n/\n<9223372036854775808):(Lit.int .i64 n).wf=true:=by
 simp[Lit.wf,IntKind.min,IntKind.max,IntKind.bits,IntKind.signed];omega
def xM(al:List PAct)(ac:List Int)(dflt:Int)(zs:List Int):Int:=if dflt∈ac then zcQ zs (al.getD dflt.toNat ⟨[],[]⟩).ws else 5
def zJ(t:PTab)(a:List Int)(al:List PAct):Int:=
 if isK t.kind=false then 5 else if InC 1 (kr t.kind) [(a.length:Int)]=false\/InC 1 4 [(t.al.length:Int)]=false then 2 else if InC 0 16 [t.cap]=false then 1 else if InC 1 48 a=false then 6 else if InC 0 ((al.length:Int)-1) t.al=false then 1 else xM al t.al t.dflt t.zs
theorem zlI{al:List ActD}{ac:List Int}{S:List SayD}{dflt C:Int}{zs:List Int}(h:S.map (fun s=>(s.act,s.ps))=ze0 al ac)(hs:zdB S dflt zs C):C=xM (al.map ActD.p) ac dflt zs:=by
 have a:∀s∈S,s.act∈ac/\s.ps=(al.getD s.act.toNat ActD.z).ws:=by
  intro s hs;have:(s.act,s.ps)∈ze0 al ac:=by rw[<-h];exact zoJ.2 ⟨s,hs,rfl⟩
  obtain⟨i,hi,e⟩:=zoJ.1 this;simp only[Prod.mk.injEq]at e;obtain⟨g,f⟩:=e;subst g;exact⟨hi,f.symm⟩
 have d:∀k:Nat,((al.map ActD.p).getD k ⟨[],[]⟩).ws=(al.getD k ActD.z).ws:=by
  intro k;simp only[zoi,zoy];cases al[k]?<;>rfl
 unfold xM;rcases hs with⟨b,rfl⟩|⟨s,hs,ha,rfl⟩
 ·have:dflt ∉ ac:=by
   intro hd;have:(dflt,(al.getD dflt.toNat ActD.z).ws)∈S.map (fun s=>(s.act,s.ps)):=by rw[h];exact zoJ.2 ⟨dflt,hd,rfl⟩
   obtain⟨s,hs,e⟩:=zoJ.1 this;simp only[Prod.mk.injEq]at e;exact b s hs e.1
  rw[if_neg this]
 ·obtain⟨c,h2⟩:=a s hs;rw[ha]at c h2;rw[if_pos c,d,h2]
theorem zmu(w:World)(cs:Array Value)(ty:TypeId)(b c a:Obj)(i:Nat)(v:Value)(h:cs[i]?=some v):((((w.alloc (.cells cs ty)).alloc b).alloc c).alloc a).cell? ⟨w.heap.size,i,none⟩=some v:=
 (zoe _ _ _ (by simp;omega)).trans ((zoe _ _ _ (by simp;omega)).trans ((zoe _ _ _ (by simp)).trans ((zod _ _ _ _ rfl).trans h)))
theorem zeN(t:TabD)(wq:QSl)(y:List Int)(l:QSl)(al:List ActD)(w:World)(hw:Has .i64 w wq.a wq.n y)(N:wq.nil0)(V:wq.n<=100000)(F:(Lit.int .i64 t.cap).wf=true)(T:Has .i64 w t.acts.a t.acts.n t.al)(a1:t.acts.n<=10000)(hz:Has .u64 w t.args.a t.args.n t.zs)(a0:t.args.n<=100000)(ha:QRow 2 ActD.lie w l al)(a5:l.n<=100000)(H:∀x∈al,x.w.n<=100000):
 Calls Tryz.prog 181 #[t.v',.slice wq.a wq.n wq.c,.slice l.a l.n l.c] w fun e w'=>e=.returned (.int .i64 (zJ t.p y (al.map ActD.p)))/\Below w.heap.size w w':=by
 have a2:∀o,Below w.heap.size w (w.alloc o):=fun o=>ze (zof _ _)
 have q:Hid (∀w',Calls Tryz.prog 206 #[.int .i64 t.kind] w' fun e g=>e=.returned (.bool (isK t.kind))/\g=w'):=fun w'=>zio t.kind w'
 have L:Hid (∀w',Calls Tryz.prog 208 #[.int .i64 t.kind] w' fun e g=>e=.returned (.int .i64 (kr t.kind))/\g=w'):=fun w'=>zip t.kind w'
 have D:Hid (∀(lo hi x:Int),(Lit.int .i64 x).wf=true->∀(w':World) (b:Nat),b=w'.heap.size->Calls Tryz.prog 207 #[.int .i64 lo,.int .i64 hi,.slice (some ⟨b,0,none⟩) 1 1] (w'.alloc (.cells #[.int .i64 x] 3)) fun e g=>e=.returned (.bool (InC lo hi [x]))/\g=w'.alloc (.cells #[.int .i64 x] 3)):=fun lo hi x hx w' b hb=>by
  subst hb;exact zaj lo hi _ 1 1 [x] _ (by omega) (qi w' x hx)
 have I:=hid (D.out 1 (kr t.kind) (wq.n:Int) (zj0 _ (by omega)))
 have B:=hid (D.out 1 4 (t.acts.n:Int) (zj0 _ (by omega)))
 have u:=hid (D.out 0 16 t.cap F);have r:Hid (∀w',Below w.heap.size w w'->Calls Tryz.prog 207 #[.int .i64 1,.int .i64 48,.slice wq.a wq.n wq.c] w' fun e g=>e=.returned (.bool (InC 1 48 y))/\g=w'):=fun w' h=>zaj 1 48 _ _ _ y w' V (hw.step h)
 have k:Hid (∀w',Below w.heap.size w w'->Calls Tryz.prog 207 #[.int .i64 0,.int .i64 ((l.n:Int)-1),.slice t.acts.a t.acts.n t.acts.c] w' fun e g=>e=.returned (.bool (InC 0 ((l.n:Int)-1) t.al))/\g=w'):=fun w' h=>zaj 0 _ _ _ _ t.al w' (by omega) (T.step h)
 have f:Hid (InC 0 ((l.n:Int)-1) t.al=true->∀w',Below w.heap.size w w'->Calls Tryz.prog 209 #[t.v',.slice wq.a wq.n wq.c,.slice l.a l.n l.c] w' (kD t.kind y al t.al w')):=fun a3 w' h=>
  ze4 t wq y l al w' (hw.step h) N V (T.step h) a1 (ha.step ActD.keeps h) (fun i hi=>by
   have:=List.all_eq_true.1 a3 i hi;have:=of_decide_eq_true this;omega) H
 have HZ:=hid hz;have d:Hid (zJ t.p y (al.map ActD.p)=if isK t.kind=false then 5 else if InC 1 (kr t.kind) [(wq.n:Int)]=false\/InC 1 4 [(t.acts.n:Int)]=false then 2 else if InC 0 16 [t.cap]=false then 1 else if InC 1 48 y=false then 6 else if InC 0 ((l.n:Int)-1) t.al=false then 1 else xM (al.map ActD.p) t.al t.dflt t.zs):=by
  show zJ t.p y (al.map ActD.p)=_;unfold zJ;rw[hw.1,zoE,ha.1,show t.p.al.length=t.acts.n from T.1]
  rfl
 have Y:=hid T.1;clear hw N T hz ha H F D;cases M:isK t.kind with
 |false=>
  rw[M]at q;rw[if_pos M]at d;clear L I B u r k f M;go_enter Tryz.func181,Tryz.ntmps181
  go_wp2_with fail
  refine(q.out _).mono ?_;rintro e j ⟨rfl,rfl⟩;clear q;go_wp2;go_ret;exact⟨by rw[d.out];rfl,a2 _⟩
 |true=>
  rw[M]at q;rw[if_neg (by rw[M];decide)]at d
  clear M;go_enter Tryz.func181,Tryz.ntmps181
  go_wp2_with fail
  refine(q.out _).mono ?_;rintro e j ⟨rfl,rfl⟩;clear q;go_wp2_with fail
  refine(L.out _).mono ?_;rintro e j ⟨rfl,rfl⟩;clear L;go_wp2_with fail
  refine(I.out _ _ (by simp)).mono ?_
  rintro e j ⟨rfl,rfl⟩;clear I;cases O:InC 1 (kr t.kind) [(wq.n:Int)]with
  |false=>
   rw[if_pos (.inl O)]at d;clear B u r k f O;go_wp2;go_ret;exact⟨by rw[d.out];rfl,(ze (ze (zof w.heap.size w)))⟩
  |true=>
   go_wp2_with fail
   refine(B.out _ _ (by simp)).mono ?_
   rintro e j ⟨rfl,rfl⟩;clear B;cases W:InC 1 4 [(t.acts.n:Int)]with
   |false=>
    rw[if_pos (.inr W)]at d;clear u r k f O W;go_wp2;go_ret;exact⟨by rw[d.out];rfl,(ze (ze (ze (zof w.heap.size w))))⟩
   |true=>
    rw[if_neg (fun h=>h.elim (fun h=>by rw[O]at h;cases h) (fun h=>by rw[W]at h;cases h))]at d
    clear O W;go_wp2_with fail
    refine(u.out _ _ (by simp)).mono ?_
    rintro e j ⟨rfl,rfl⟩;clear u;cases J:InC 0 16 [t.cap]with
    |false=>
     rw[if_pos J]at d;clear r k f J;go_wp2;go_ret;exact⟨by rw[d.out];rfl,(ze (ze (ze (ze (zof w.heap.size w)))))⟩
    |true=>
     rw[if_neg (fun h=>by rw[J]at h;cases h)]at d
     clear J;go_wp2_with fail
     refine(r.out _ (ze (ze (ze (ze (zof w.heap.size w)))))).mono ?_;rintro e j ⟨rfl,rfl⟩;clear r;cases X:InC 1 48 y with
     |false=>
      rw[if_pos X]at d;clear k f X;go_wp2;go_ret;exact⟨by rw[d.out];rfl,(ze (ze (ze (ze (zof w.heap.size w)))))⟩
     |true=>
      rw[if_neg (fun h=>by rw[X]at h;cases h)]at d
      clear X;go_wp2_with fail
      refine(k.out _ (ze (ze (ze (ze (zof w.heap.size w)))))).mono ?_;rintro e j ⟨rfl,rfl⟩;clear k;cases R:InC 0 ((l.n:Int)-1) t.al with
      |false=>
       rw[if_pos R]at d;clear f R;go_wp2;go_ret;exact⟨by rw[d.out];rfl,(ze (ze (ze (ze (zof w.heap.size w)))))⟩
      |true=>
       rw[if_neg (fun h=>by rw[R]at h;cases h)]at d
       have f:=hid (f.out R);clear R;go_wp2_with fail
       refine(f.out _ (ze (ze (ze (ze (zof w.heap.size w)))))).mono ?_;rintro e j ⟨wa,wc,m,S,rfl,_,E,s,A,-⟩;have K:=hid (zh (ze (ze (ze (ze (zof w.heap.size w))))) A);have G:=hid E;have U:=hid s;have x4:j.cell? ⟨w.heap.size,4,none⟩=some (.int .i64 t.dflt):=za (zmu w _ _ _ _ _ 4 _ rfl) A;have x5:j.cell? ⟨w.heap.size,5,none⟩=some (.slice t.args.a t.args.n t.args.c):=za (zmu w _ _ _ _ _ 5 _ rfl) A;have a4:w.heap.size<j.heap.size:=zog j _ x4;have Z:m.n<=100000:=by
        have h1:=congrArg List.length U.out;simp only[zoE,ze0,G.out.1,Y.out]at h1;omega
       have P:Hid (∀o,(j.alloc o).cell? ⟨j.heap.size,2,none⟩=some (.slice m.a m.n m.c)->Calls Tryz.prog 210 #[.pointer (some ⟨j.heap.size,0,none⟩),.agg #[.int .i64 t.dflt,.slice t.args.a t.args.n t.args.c]] (j.alloc o) (zg5 S t.dflt t.zs (j.alloc o))):=fun o h2=>
        zks j.heap.size m S t.dflt t.args.a t.args.n t.args.c t.zs (j.alloc o) Z a0 h2 (G.out.step SayD.keeps (ze (zof _ _))) ((HZ.out.step K.out).step (ze (zof _ _)))
       clear f A E s;go_wp2_with fail
       refine(P.out _ ((zod _ _ _ _ rfl).trans rfl)).mono ?_;rintro e w2 ⟨C,rfl,J,Q⟩;have HC:=hid (zlI U.out J);have HE:=hid (zh (ze K.out) Q);clear P J Q K;go_wp2;go_ret;exact⟨by rw[d.out,<-HC.out];rfl,HE.out⟩
theorem zij(t:TabD)(C:QSl)(al:List ActD)(dflt:Int)(a:Option Addr)(n c:Nat)(zs:List Int)(w:World)(ht:Has .i64 w t.acts.a t.acts.n t.al)(a6:t.acts.n<=100000)(ha:QRow 2 ActD.lie w C al)(O:∀i∈t.al,0<=i/\i<(C.n:Int))(G:∀x∈al,∀y∈x.ws,1<=y/\y<=64)(N:∀x∈al,x.w.n<=100000)(hz:Has .u64 w a n zs):
 Calls Tryz.prog 101 #[t.v',.slice C.a C.n C.c,.agg #[.int .i64 dflt,.slice a n c]] w fun e w'=>e=.returned (.int .i64 (xM (al.map ActD.p) t.al dflt zs))/\Below w.heap.size w w':=by
 obtain⟨A,hW⟩:∃A,A=((w.alloc t.box').alloc (.cells #[.int .i64 dflt,.slice a n c] 182)):=⟨_,rfl⟩;obtain⟨b0,h0⟩:∃b0,b0=w.heap.size:=⟨_,rfl⟩;obtain⟨b1,R⟩:∃b1,b1=w.heap.size+1:=⟨_,rfl⟩;have y0:A.cell? ⟨b1,0,none⟩=some (.int .i64 dflt):=by rw[hW,R];exact(zod _ _ _ _ (by simp)).trans rfl
 have y1:A.cell? ⟨b1,1,none⟩=some (.slice a n c):=by rw[hW,R];exact(zod _ _ _ _ (by simp)).trans rfl
 have Q:Hid (Below w.heap.size w A):=by rw[hW];exact ze (ze (zof _ _))
 have b:Hid (Calls Tryz.prog 61 #[.slice t.acts.a t.acts.n t.acts.c,.int .i64 dflt] A fun e I=>e=.returned (.bool (decide (dflt∈t.al)))/\I=A):=zd7 _ _ _ t.al dflt A a6 (ht.step Q.out)
 have E3:=hid hW;have E0:=hid h0;have E1:=hid R;clear hW h0 R;by_cases K:dflt∈t.al
 ·obtain⟨g0,D⟩:=O dflt K;obtain⟨j,rfl⟩:∃j:Nat,dflt=j:=⟨dflt.toNat,by omega⟩
  obtain⟨ag,V,x,Y,hx,⟨c0,_⟩,_,X,_⟩:=zu (ha.step ActD.keeps Q.out) (show j<C.n by omega)
  have b3:(j:Int)<(C.n:Int):=by omega
  have E:=zol hx;have d:Hid (xM (al.map ActD.p) t.al j zs=zcQ zs x.ws):=by
   show xM (al.map ActD.p) t.al j zs=_;unfold xM;rw[if_pos K,zov,zoi,zoy,hx];rfl
  have a5:=hid (G x E);have b2:=N x E;have r:=hid X;have HZ:=hid (hz.step Q.out);obtain⟨qa,eqa⟩:∃qa,C.a=qa:=⟨_,rfl⟩;rw[eqa];obtain rfl:qa=some ⟨ag,V,none⟩:=by rw[<-eqa];exact Y
  obtain⟨wa,ewa⟩:∃wa,x.w.a=wa:=⟨_,rfl⟩;rw[ewa]at c0;have a7:=hid ewa;rw[zoY K]at b;clear ht ha O G N hz K g0 D hx E X Y eqa ewa;go_enter Tryz.func101,Tryz.ntmps101
  go_wp2_with fail
  rw[<-E3.out,<-E1.out,<-E0.out];refine b.out.mono ?_;rintro e S ⟨rfl,rfl⟩;clear b E3 E1 E0;by_cases hl:(x.w.n:Int)=(n:Int)
  ·have a0:((x.w.n:Int) !=(n:Int))=false:=by simpa using hl
   have W:Hid (zcQ zs x.ws=if jQ zs x.ws then 0 else 6):=by
    show zcQ zs x.ws=_;unfold zcQ;rw[if_neg (by have R:=HZ.out.1;have h2:=r.out.1;omega)]
   have T:Hid (x.w.n=n):=by show x.w.n=n;omega
   have Z:Hid (Below S.heap.size S S):=zof _ _;clear hl;go_wp2;go_loopw [8] (fun q wr=>∃k:Nat,k<=x.w.n/\q=.int .i64 k/\Hid (jQ zs x.ws=jQ (zs.drop k) (x.ws.drop k))/\Hid (Below S.heap.size S wr)) (fun q _=>x.w.n-(intOf q).toNat)
   case atStart=>exact⟨0,zon _,rfl,rfl,Z⟩
   case round=>
    obtain⟨k,hk,rfl,l,f⟩:=hrel;clear Z;have BW:=hid (zh Q.out f.out);have y1:=za y1 f.out;by_cases a1:k<x.w.n
    ·obtain⟨zg,a9,z,ez,P,r0⟩:=zg8 (HZ.out.step f.out) (show k<n by have:=T.out;omega)
     obtain⟨pg,U,y,ey,F,r1⟩:=xQ (r.out.step f.out) a1;obtain rfl:wa=some ⟨pg,U,none⟩:=by rw[<-a7.out];exact ey
     have a8:(k:Int)<(x.w.n:Int):=by omega
     have b4:(k:Int)<(n:Int):=by have:=T.out;omega
     have s:=ze5 P F;have B:=HZ.out.nums z (zol P);have u:=zeY B (a5.out y (zol F));have g:Hid (∀w',Calls Tryz.prog 98 #[.int .u64 z,.int .i64 y] w' fun e I=>e=.returned (.bool (decide (yI y<z)))/\I=w'):=fun w'=>zai z y w'
     rw[ez]at y1;have a4:=zm y1;have a3:=zm r0;have a2:=zm r1;clear P F ey B ez;generalize yI y=M at*;generalize ku z=L at*;by_cases D:M<z
     ·have H:Hid (xM (al.map ActD.p) t.al j zs=6):=by
       show _=_;rw[d.out,W.out,l.out,s,zoX (by have:=u.1 D;omega)]
       rfl
      rw[zoY D]at g;clear s l u D;go_wp2_with fail
      haveI inhB:∀w:World,Inhabited (zq w):=fun w=>⟨⟨w,zof _ _⟩⟩
      refine zi (by kernel_rfl) (by kernel_rfl) ?_
      repeat (go_big_quiet_step (first|(go_at_call 98;exact zt _ (g.out _))))
      refine wpQuiet_nil ?_;intro wq J;obtain⟨⟨_,m⟩,o⟩:=J;subst o;have HE:=hid (zh BW.out m);clear m g f BW;go_wp2;go_ret;exact⟨by rw[H.out];rfl,HE.out⟩
     ·have H:Hid (jQ zs x.ws=jQ (zs.drop (k+1)) (x.ws.drop (k+1))):=by
       show _=_;rw[l.out,s,zoY (by apply Classical.byContradiction;intro h;exact D (u.2 (by omega)))]
       rfl
      rw[zoX D]at g;clear s l u D;go_wp2_with fail
      haveI inhB:∀w:World,Inhabited (zq w):=fun w=>⟨⟨w,zof _ _⟩⟩
      refine zi (by kernel_rfl) (by kernel_rfl) ?_
      repeat (go_big_quiet_step (first|(go_at_call 98;exact zt _ (g.out _))))
      refine wpQuiet_nil ?_;intro wq J;obtain⟨⟨_,m⟩,o⟩:=J;subst o;have HE:=hid (zh f.out m);clear m g f BW r0 r1 a3 a2 a4;go_wp2;go_roundw
      case rel=>exact⟨k+1,by omega,by go_num,H,HE⟩
      case measure=>simp[intOf];omega
    ·have ek:k=x.w.n:=by omega
     have a8:¬(k:Int)<(x.w.n:Int):=by omega
     have H:Hid (xM (al.map ActD.p) t.al j zs=0):=by
      show _=_;have:jQ zs x.ws=true:=by
       rw[l.out,ek,<-r.out.1,zoP];cases zs.drop x.ws.length<;>rfl
      rw[d.out,W.out,this];rfl
     clear l ek;go_wp2;go_ret;exact⟨by rw[H.out];rfl,BW.out⟩
  ·have a0:((x.w.n:Int) !=(n:Int))=true:=by simpa using hl
   have H:Hid (xM (al.map ActD.p) t.al j zs=2):=by
    show _=_;rw[d.out];unfold zcQ;rw[if_pos (by have R:=HZ.out.1;have h2:=r.out.1;omega)]
   clear hl;go_wp2;go_ret;exact⟨by rw[H.out];rfl,Q.out⟩
 ·have d:Hid (xM (al.map ActD.p) t.al dflt zs=5):=by show xM _ _ _ _=5;unfold xM;rw[if_neg K]
  rw[zoX K]at b;clear ht ha O G N hz K;go_enter Tryz.func101,Tryz.ntmps101
  go_wp2_with fail
  rw[<-E3.out,<-E1.out,<-E0.out];refine b.out.mono ?_;rintro e S ⟨rfl,rfl⟩;clear b;go_wp2;go_ret;exact⟨by rw[d.out];rfl,Q.out⟩
end Go.Proofs.YtdajaaondlekfaaGreat
