import Derived.Test.YtbmcgbmegcpgnaaGreatG14
import Derived.Test.YtbmcgbmegcpgnaaGreatG2
import Derived.Test.YtbmcgbmegcpgnaaGreatG5
import Derived.Test.YtbmcgbmegcpgnaaGreatG9
import Derived.Test.YtbmcgbmegcpgnaaGreatG16
import Derived.Test.YtbmcgbmegcpgnaaGreatVZEnc2
import Derived.Deep.RegionHeld3
import Derived.Test.YtbmcgbmegcpgnaaGreatG11
import Derived.Test.YtbmcgbmegcpgnaaGreatG10
import Derived.Test.YtbmcgbmegcpgnaaGreatG13
import Derived.Test.YtbmcgbmegcpgnaaGreatVQGreat2
import Derived.Test.YtbmcgbmegcpgnaaGreatVZLen
set_option maxHeartbeats 32000000
set_option maxRecDepth 20000
set_option linter.unusedSimpArgs false
namespace Go.Proofs.YtbmcgbmegcpgnaaGreat
open Go.RowKit
theorem zrt{α β :Type}{Q: β->α->Prop}:∀(a:List α),(∀y∈a,∃d,Q d y)->∃S:List β,S.length=a.length/\∀(i:Nat) (y: α) (d: β),a[i]?=some y->S[i]?=some d->Q d y
 |[],_=>⟨[],rfl,fun i y d h=>by simp at h⟩
 |y::a,h=>by
  obtain⟨d,c⟩:=h y (List.mem_cons_self ..);obtain⟨S,g,f⟩:=zrt a fun z hz=>h z (List.mem_cons_of_mem _ hz)
  refine⟨d::S,by rw[zvv,zvv,g],fun i z e hz b=>?_⟩
  cases i with
  |zero=>
   simp only[List.getElem?_cons_zero,zoo]at hz b;subst hz;subst b;exact c
  |succ i=>
   simp only[List.getElem?_cons_succ]at hz b;exact f i z e hz b
theorem zpX{α β γ :Type}(K:Kd β){enc: α->List Value}{T:TypeId}{w:World}{g:Nat}{b:List α}(m: β->γ)(px: α->γ)(h:RowK enc K.k T b.length w g b)(o:∀y∈b,∃d,K.cells d=enc y/\K.inn d w/\m d=px y):∃S:List β,QRow K.k K.lie w ⟨some ⟨g,0,none⟩,b.length,b.length⟩ S/\S.map m=b.map px:=by
 obtain⟨S,e,n⟩:=zrt b o;obtain⟨x,c1,c2,c3⟩:=h;refine⟨S,⟨e,fun i s hs=>?_⟩,?_⟩
 ·have q:=(zok.1 hs).1;have a:=zoh (l:=b) (i:=i) (by rw[<-e];exact q)
  obtain⟨r,t,_⟩:=n i _ s a hs;refine⟨g,0,rfl,K.lay (fun j u f=>?_) t⟩
  rw[r]at f;have:=c3 i _ a j u f;rw[zoK];simpa[World.cell?,c1]using this
 ·refine List.ext_getElem? fun i=>?_
  rw[zoy,zoy];rcases Nat.lt_or_ge i b.length with hi|hi
  ·have a:=zoh hi;have c:=zoh (l:=S) (i:=i) (by rw[e];exact hi)
   rw[a,c];show some _=some _;rw[(n i _ _ a c).2.2]
  ·rw[List.getElem?_eq_none hi,List.getElem?_eq_none (by omega)]
   rfl
theorem zrQ{k:IntKind}{T:TypeId}{w:World}{g:Nat}{a:List Int}(h:RowI k T w g a)(hw:∀x∈a,(Lit.int k x).wf=true):Has k w (some ⟨g,0,none⟩) a.length a:=by
 unfold RowI at h;refine⟨rfl,hw,.inr ⟨g,0,rfl,(zoj.1 h).1,fun i hi=>?_⟩⟩
 rw[zoK];simp only[World.cell?,h,List.getElem?_toArray,zoy,zoh hi,Option.map_some,zoi,zoC];rfl
def zqM(v:Value)(s:QSl):Prop:=v=.slice s.a s.n s.c/\s.nil0/\s.n<=s.c
theorem zpG(g n:Nat):zqM (.slice (some ⟨g,0,none⟩) n n) ⟨some ⟨g,0,none⟩,n,n⟩:=⟨rfl,(fun h=>by cases h),zos _⟩
theorem zqy{w w':World}{b:List Int}{v:Value}(h:IntsV w b w' v):∃s,zqM v s/\Has .i64 w' s.a s.n b:=by
 obtain⟨g,rfl,_,c,hw⟩:=h;exact⟨_,zpG g _,zrQ c hw⟩
theorem zt9{w w':World}{b:List Int}{v:Value}(h:NumsV w b w' v):∃s,zqM v s/\Has .u64 w' s.a s.n b:=by
 obtain⟨g,rfl,_,c,hw⟩:=h;exact⟨_,zpG g _,zrQ c hw⟩
theorem zua{w w':World}{a:List (Int × Int)}{v:Value}(h:RefsV w a w' v):∃s,zqM v s/\QRow 2 RefD.lie w' s (a.map zqu):=by
 obtain⟨g,rfl,_,e,hw⟩:=h;obtain⟨S,d,b⟩:=zpX kRef id zqu e fun y c=>⟨zqu y,rfl,hw y c,rfl⟩
 rw[List.map_id]at b;rw[<-b];exact⟨_,zpG g _,d⟩
theorem ztk{w w':World}{a:List (Int × Int × Int)}{v:Value}(h:CasesV w a w' v):∃s,zqM v s/\QRow 3 CaseD.lie w' s (a.map zqe):=by
 obtain⟨g,rfl,_,e,hw⟩:=h;obtain⟨S,d,b⟩:=zpX kCase id zqe e fun y c=>⟨zqe y,rfl,hw y c,rfl⟩
 rw[List.map_id]at b;rw[<-b];exact⟨_,zpG g _,d⟩
theorem zst{w w':World}{e:Option (List (Int × Int × Int × Int))}{v:Value}(h:TreeV w e w' v):∃s,zqM v s/\QRow 4 PushD.lie w' s (zqx e):=by
 cases e with
 |none=>
  obtain rfl:v=.slice none 0 0:=h;exact⟨⟨none,0,0⟩,⟨rfl,fun _=>⟨rfl,rfl⟩,zos _⟩,rfl,by simp⟩
 |some xs=>
  obtain⟨g,rfl,_,d,hw⟩:PushsV w xs w' v:=h;obtain⟨S,b,a⟩:=zpX kPush id zpV d fun y c=>⟨zpV y,rfl,hw y c,rfl⟩
  rw[List.map_id]at a;show ∃s,_/\QRow 4 PushD.lie w' s (xs.map zpV);rw[<-a];exact⟨_,zpG g _,b⟩
theorem ztl{w w':World}{b:List (List Int)}{v:Value}(h:HeadsV w b w' v):∃s S,zqM v s/\QRow 1 HeadD.lie w' s S/\S.map HeadD.ws=b:=by
 obtain⟨g,k,rfl,_,rfl,d,hw⟩:=h;rw[zoE]at d ⊢;obtain⟨S,j,f⟩:=zpX kHead HeadD.ws (fun y=>y.1) d fun y e=>by
  obtain⟨s,hs,i⟩:=zqy (hw y e);exact⟨⟨s,y.1⟩,(by show[Value.slice s.a s.n s.c]=[y.2];rw[hs.1]),⟨hs.2.1,i⟩,rfl⟩
 exact⟨_,S,zpG g _,j,f⟩
theorem zsJ{w w':World}{b:List StateX}{v:Value}(h:StatesV w b w' v):∃s S,zqM v s/\QRow 5 StateD.lie w' s S/\S.map StateD.p=b.map zpL:=by
 obtain⟨g,q,rfl,_,rfl,d,hw⟩:=h;rw[zoE]at d ⊢;obtain⟨S,m,j⟩:=zpX kState StateD.p (fun y=>zpL y.1) d fun y f=>by
  obtain⟨i,o,w2,l,e⟩:=hw y f;obtain⟨s,hs,k⟩:=ztk i;exact⟨⟨y.1.head,⟨y.1.on.1,y.1.on.2⟩,s,y.1.cs.map zqe,y.1.els⟩,(by show[_,_,_,Value.slice s.a s.n s.c,_]=zqp y;rw[<-hs.1];rfl),⟨⟨o,w2,l,hs.2.1,e⟩,k⟩,rfl⟩
 exact⟨_,S,zpG g _,m,by rw[j,List.map_map];rfl⟩
theorem ztm{w w':World}{b:List DeedX}{v:Value}(h:DeedsV w b w' v):∃s S,zqM v s/\QRow 5 OpD.lie w' s S/\S.map OpD.p=b.map zpS:=by
 obtain⟨g,t,rfl,_,rfl,d,hw⟩:=h;rw[zoE]at d ⊢;obtain⟨S,q,l⟩:=zpX kOp OpD.p (fun y=>zpS y.1) d fun y j=>by
  obtain⟨k,r,w2,o,i⟩:=hw y j;obtain⟨s,hs,m⟩:=zst k;exact⟨⟨y.1.kind,⟨y.1.h,y.1.f⟩,y.1.head,s,zqx y.1.e⟩,(by show[_,_,_,_,Value.slice s.a s.n s.c]=zqG y;rw[<-hs.1];rfl),⟨⟨r,w2,o,i,hs.2.1⟩,m⟩,rfl⟩
 exact⟨_,S,zpG g _,q,by rw[l,List.map_map];rfl⟩
theorem zub{w w':World}{i:List ActX}{v:Value}(h:ActsV w i w' v):∃s S,zqM v s/\QRow 2 ActD.lie w' s S/\S.map ActD.p=i.map zqW:=by
 obtain⟨g,t,rfl,_,rfl,j,hw⟩:=h;rw[zoE]at j ⊢;obtain⟨S,r,q⟩:=zpX kAct ActD.p (fun y=>zqW y.1) j fun y k=>by
  obtain⟨hi,l⟩:=hw y k;obtain⟨s,hs,o⟩:=zqy hi;obtain⟨d,f,b,e,m⟩:=ztm l;exact⟨⟨s,y.1.w,d,f⟩,(by show[Value.slice s.a s.n s.c,Value.slice d.a d.n d.c]=zrz y;rw[<-hs.1,<-b.1];rfl),⟨⟨hs.2.1,b.2.1⟩,o,e⟩,by show(⟨y.1.w,f.map OpD.p⟩:PAct)=_;rw[m]⟩
 exact⟨_,S,zpG g _,r,by rw[q,List.map_map];rfl⟩
theorem zuc{w w':World}{i:List TabX}{v:Value}(h:TabsV w i w' v):∃s S,zqM v s/\QRow 6 TabD.lie w' s S/\S.map TabD.p=i.map zqL:=by
 obtain⟨g,x,rfl,_,rfl,j,hw⟩:=h;rw[zoE]at j ⊢;obtain⟨S,r,m⟩:=zpX kTab TabD.p (fun y=>zqL y.1) j fun y k=>by
  obtain⟨q,ha,t,u,w2,o⟩:=hw y k;obtain⟨s,hs,l⟩:=zua q;obtain⟨s1,d,f⟩:=zqy ha;obtain⟨s2,b,e⟩:=zt9 t;exact⟨⟨y.1.kind,s,y.1.keys.map zqu,s1,y.1.acts,y.1.cap,y.1.dflt,s2,y.1.args⟩,(by show[_,Value.slice s.a s.n s.c,Value.slice s1.a s1.n s1.c,_,_,Value.slice s2.a s2.n s2.c]=zry y;rw[<-hs.1,<-d.1,<-b.1];rfl),⟨⟨u,hs.2.1,d.2.1,w2,o,b.2.1⟩,l,f,e⟩,rfl⟩
 exact⟨_,S,zpG g _,r,by rw[m,List.map_map];rfl⟩
theorem ztn{w w':World}{b:List NodeX}{v:Value}(h:NodesV w b w' v):∃s S,zqM v s/\QRow 5 NodeD.lie w' s S/\S.map NodeD.p=b.map zp3:=by
 obtain⟨g,r,rfl,_,rfl,d,hw⟩:=h;rw[zoE]at d ⊢;obtain⟨S,o,k⟩:=zpX kNode NodeD.p (fun y=>zp3 y.1) d fun y i=>by
  obtain⟨j,q,w2,m,f⟩:=hw y i;obtain⟨s,hs,l⟩:=zst j;exact⟨⟨y.1.kind,y.1.n,s,zqx y.1.e,y.1.yes,y.1.no⟩,(by show[_,_,Value.slice s.a s.n s.c,_,_]=zqF y;rw[<-hs.1];rfl),⟨⟨q,w2,hs.2.1,m,f⟩,l⟩,rfl⟩
 exact⟨_,S,zpG g _,o,by rw[k,List.map_map];rfl⟩
theorem zsu{w w':World}{x:PlanX}{v:Value}(h:PlanV w x w' v):∃d:PlanD,v=d.v/\d.lie w'/\d.nil0/\d.p=zp0 x:=by
 obtain⟨v1,v2,v3,v4,v5,v6,M,rfl,G,B,I,E,C,F,s⟩:=h;obtain⟨s1,f,e,L,A⟩:=ztl G;obtain⟨s2,j,o⟩:=zqy B;obtain⟨s3,b,k,H,q⟩:=zsJ I;obtain⟨s4,n,i,J,t⟩:=zub E;obtain⟨s5,c,l,D,r⟩:=zuc C;obtain⟨s6,m,g,y,u⟩:=ztn F;obtain⟨s7,a,K⟩:=zqy s;refine⟨⟨s1,f,s2,x.mt,s3,b,s4,n,s5,c,s6,m,s7,x.out⟩,?_,⟨L,o,H,J,D,y,K,a.2.2⟩,⟨e.2.1,j.2.1,k.2.1,i.2.1,l.2.1,g.2.1,a.2.1⟩,?_⟩
 ·rw[e.1,j.1,k.1,i.1,l.1,g.1,a.1]
 ·show(⟨f.map HeadD.ws,x.mt,b.map StateD.p,n.map ActD.p,c.map TabD.p,m.map NodeD.p,x.out⟩:PPlan)=_;rw[A,q,t,r,u]
def NoZ{α :Type}(r:Except (Int × Int) (α × Nat)):Prop:=∀c a,r=.error (c,a)->c≠0
theorem zpp{α :Type}(y: α × Nat):NoZ (.ok y):=fun c a h=>by cases h
theorem kb{α β :Type}{r:Except (Int × Int) (α × Nat)}{f: α->Nat->Except (Int × Int) (β × Nat)}(g:NoZ r)(d:∀x t,NoZ (f x t)):NoZ (y7 r f):=fun c a h=>by
 unfold y7 at h;cases b:r with
 |error e=>rw[b]at h;cases h;exact g c a b
 |ok y=>rw[b]at h;exact d y.1 y.2 c a h
theorem zpN{α :Type}{P:Prop}[Decidable P]{r s:Except (Int × Int) (α × Nat)}(a:NoZ r)(hs:NoZ s):NoZ (if P then r else s):=by
 split
 ·exact a
 ·exact hs
theorem zqZ(zs:List Int):∀(f i t acc:Nat),NoZ (zpM zs f i t acc)
 |0,_,_,_=>fun c a h=>by unfold zpM at h;cases h;decide
 |f+1,i,t,acc=>fun c a h=>by
  rw[zpM]at h;cases hb:zs[t]? with
  |none=>rw[hb]at h;cases h;decide
  |some b=>
   rw[hb]at h;dsimp only at h;split at h
   ·cases h;decide
   ·split at h
    ·cases h
    ·exact zqZ zs f (i+1) (t+1) _ c a h
theorem zq0(zs:List Int)(t:Nat):NoZ (zpf zs t):=zqZ zs 10 0 t 0
theorem zqk(zs:List Int)(t:Nat):NoZ (zo0 zs t):=fun c a h=>by
 unfold zo0 at h;cases b:zpf zs t with
 |error e=>rw[b]at h;cases h;exact zq0 zs t c a b
 |ok y=>rw[b]at h;cases h
theorem zo2(zs:List Int)(t:Nat):NoZ (ke zs t):=fun c a h=>by
 unfold ke at h;cases b:zpf zs t with
 |error e=>rw[b]at h;cases h;exact zq0 zs t c a b
 |ok y=>rw[b]at h;cases h
theorem zsv(zs:List Int)(t:Nat):NoZ (zpl zs t):=fun c a h=>by
 unfold zpl at h;cases b:ke zs t with
 |error e=>rw[b]at h;cases h;exact zo2 zs t c a b
 |ok y=>
  rw[b]at h;dsimp only at h;split at h
  ·cases h;decide
  ·cases h
theorem zq1{α :Type}{f:Nat->Except (Int × Int) (α × Nat)}(g:∀t,NoZ (f t)):∀n t,NoZ (xh f n t)
 |0,t=>zpp _
 |n+1,t=>fun c a h=>by
  rw[xh]at h;cases b:f t with
  |error e=>rw[b]at h;cases h;exact g t c a b
  |ok y=>
   rw[b]at h;dsimp only at h;cases d:xh f n y.2 with
   |error e=>rw[d]at h;cases h;exact zq1 g n y.2 c a d
   |ok z=>rw[d]at h;cases h
theorem zpd{α :Type}{zs:List Int}{f:Nat->Except (Int × Int) (α × Nat)}(d:∀t,NoZ (f t))(t:Nat):NoZ (yz zs f t):=fun c a h=>by
 unfold yz at h;cases b:zpl zs t with
 |error e=>rw[b]at h;cases h;exact zsv zs t c a b
 |ok y=>rw[b]at h;exact zq1 d y.1 y.2 c a h
theorem zp6(zs:List Int)(t:Nat):NoZ (jp zs t):=kb (zo2 _ _) fun _ _=>kb (zo2 _ _) fun _ _=>zpp _
theorem zto(zs:List Int)(t:Nat):NoZ (zph zs t):=kb (zqk _ _) fun _ _=>kb (zqk _ _) fun _ _=>kb (zo2 _ _) fun _ _=>zpp _
theorem ztp(zs:List Int)(t:Nat):NoZ (zo6 zs t):=kb (zo2 _ _) fun _ _=>zpN (kb (zqk _ _) fun _ _=>zpp _) (zpN (kb (zp6 _ _) fun _ _=>zpp _) (zpp _))
theorem zq2(zs:List Int)(t:Nat):NoZ (yz zs (zo6 zs) t):=zpd (ztp zs) t
theorem ztq(zs:List Int)(t:Nat):NoZ (qc zs t):=kb (zo2 _ _) fun _ _=>zpN (kb (zp6 _ _) fun _ _=>kb (zq2 _ _) fun _ _=>zpp _) (zpN (kb (zo2 _ _) fun _ _=>zpp _) (zpN (kb (zo2 _ _) fun _ _=>zpp _) (zpN (kb (zq2 _ _) fun _ _=>zpp _) (zpN (kb (zp6 _ _) fun _ _=>kb (zo2 _ _) fun _ _=>zpp _) (zpp _)))))
theorem zud(zs:List Int)(t:Nat):NoZ (zpT zs t):=kb (zpd (zo2 zs) _) fun _ _=>kb (zpd (ztq zs) _) fun _ _=>zpp _
theorem zue(zs:List Int)(t:Nat):NoZ (zpz zs t):=kb (zo2 _ _) fun _ _=>kb (zpd (zp6 zs) _) fun _ _=>kb (zpd (zo2 zs) _) fun _ _=>kb (zo2 _ _) fun _ _=>kb (zo2 _ _) fun _ _=>kb (zpd (zqk zs) _) fun _ _=>zpp _
theorem ztr(zs:List Int)(t:Nat):NoZ (zo7 zs t):=kb (zo2 _ _) fun _ _=>kb (zo2 _ _) fun _ _=>zpN (kb (zq2 _ _) fun _ _=>kb (zo2 _ _) fun _ _=>zpp _) (zpN (kb (zo2 _ _) fun _ _=>kb (zo2 _ _) fun _ _=>zpp _) (kb (zo2 _ _) fun _ _=>zpp _))
theorem zsK(zs:List Int)(t:Nat):NoZ (zk0 zs t):=kb (zo2 _ _) fun _ _=>kb (zsv _ _) fun _ _=>kb (zpN (zpp _) (zp6 _ _)) fun _ _=>kb (zq1 (zto zs) _ _) fun _ _=>kb (zo2 _ _) fun _ _=>zpp _
theorem zts(zs:List Int)(t:Nat):NoZ (zpq zs t):=kb (zpd (zpd (zo2 zs)) _) fun _ _=>kb (zpd (zo2 zs) _) fun _ _=>kb (zpd (zsK zs) _) fun _ _=>kb (zpd (zud zs) _) fun _ _=>kb (zpd (zue zs) _) fun _ _=>kb (zpd (ztr zs) _) fun _ _=>kb (zpd (zo2 zs) _) fun _ _=>zpp _
theorem zrR{zs:List Int}(h:(zo1 zs).1=0):zo1 zs=(0,0)/\7<=zs.length/\zs.length<=8000/\zs.take 3=[83,89,1]/\zs.drop (zs.length-4)=Mth.four (Mth.crc (zs.take (zs.length-4))):=by
 unfold zo1 at h ⊢;by_cases d:zs.length<7
 ·rw[if_pos d]at h;exact absurd h (by show(3:Int)≠0;decide)
 rw[if_neg d]at h ⊢;by_cases c:8000<zs.length
 ·rw[if_pos c]at h;exact absurd h (by show(14:Int)≠0;decide)
 rw[if_neg c]at h ⊢;by_cases a:zs.take 3≠[83,89,1]
 ·rw[if_pos a]at h;exact absurd h (by show(4:Int)≠0;decide)
 rw[if_neg a]at h ⊢;by_cases b:zs.drop (zs.length-4)≠Mth.four (Mth.crc (zs.take (zs.length-4)))
 ·rw[if_pos b]at h;exact absurd h (by show(19:Int)≠0;decide)
 rw[if_neg b];exact⟨rfl,by omega,by omega,Classical.not_not.1 a,Classical.not_not.1 b⟩
def zq3(zs:List Int):Option PlanX:=if(zo1 zs).1≠0 then none else match zpq (zs.take (zs.length-4)) 3 with
 |.error _=>none
 |.ok (x,u)=>if u<(zs.take (zs.length-4)).length then none else if(zD (zp0 x)).1≠0 then none else some x
def zps(zs:List Int):Except (Int × Int) PlanX:=if(zo1 zs).1≠0 then .error (zo1 zs)else match zpq (zs.take (zs.length-4)) 3 with
 |.error e=>.error e
 |.ok (x,u)=>if u<(zs.take (zs.length-4)).length then .error (4,(u:Int))else if(zD (zp0 x)).1≠0 then .error (5,((zs.take (zs.length-4)).length:Int))else .ok x
@[reducible] def zpv:Value:=.agg #[.slice none 0 0,.slice none 0 0,.slice none 0 0,.slice none 0 0,.slice none 0 0,.slice none 0 0,.slice none 0 0]
theorem zsm(a:Option Addr)(n c:Nat)(zs:List Int)(w:World)(K:n<=10000000)(D:n<=c)(hz:Has .u8 w a n zs)(hb:(zo1 zs).1≠0):
 Calls Tryz.prog 9 #[.slice a n c] w fun e w'=>e=.returned (.tuple #[zpv,.agg #[.int .i64 (zo1 zs).1,.int .i64 (zo1 zs).2]])/\Below w.heap.size w w':=by
 obtain⟨j,hW⟩:∃j,j=((w.alloc (.cells #[.slice none 0 0,.slice none 0 0,.slice none 0 0,.slice none 0 0,.slice none 0 0,.slice none 0 0,.slice none 0 0] 29)).alloc (.cells #[.int .i64 0,.int .i64 0] 35)):=⟨_,rfl⟩;obtain⟨s,es⟩:∃s,s=w.heap.size:=⟨_,rfl⟩;obtain⟨f,ef⟩:∃f,f=w.heap.size+1:=⟨_,rfl⟩;have B:Hid (Below w.heap.size w j):=by rw[hW];exact ze (ze (zof _ _))
 have E:(∀k,k<7->j.cell? ⟨s,k,none⟩=some (.slice none 0 0))/\j.cell? ⟨f,0,none⟩=some (.int .i64 0)/\j.cell? ⟨f,1,none⟩=some (.int .i64 0)/\(∀o,j.frozen? ⟨s,o,none⟩=false)/\∀o,j.frozen? ⟨f,o,none⟩=false:=by
  rw[hW,es,ef];refine⟨fun k O=>?_,?_,?_,fun o=>?_,fun o=>?_⟩
  ·rcases(show k=0\/k=1\/k=2\/k=3\/k=4\/k=5\/k=6 by omega)with rfl|rfl|rfl|rfl|rfl|rfl|rfl<;>exact(zoe _ _ _ (by simp)).trans ((zod _ _ _ _ rfl).trans rfl)
  ·exact(zod _ _ _ _ (by simp)).trans rfl
  ·exact(zod _ _ _ _ (by simp)).trans rfl
  ·exact(World.frozen?_alloc_past _ _ _ (by simp)).trans (zoB _ _ _ _ rfl)
  ·exact zoB _ _ _ _ (by simp)
 have t:=hid (zru a n c zs j K D (hz.step B.out));have L:((zo1 zs).1 !=0)=true:=by rw[bne_iff_ne];exact hb
 have l:s<f/\f<j.heap.size/\w.heap.size<=s:=by rw[hW,es,ef];simp
 have F:=hid hW;have G:=hid es;have H:=hid ef;have i:=hid E;have g:=hid l;clear hz hW es ef E hb l;unfold zqo at t;generalize(zo1 zs).1=C at*;generalize(zo1 zs).2=A at*;go_enter Tryz.func9,Tryz.ntmps9
 go_wp2_with fail
 rw[<-F.out,<-H.out,<-G.out];refine t.out.mono ?_;rintro e q ⟨rfl,b⟩;clear t F G H;have y:=hid (zh B.out b);have c0:=za (i.out.1 0 (by decide)) b
 have c1:=za (i.out.1 1 (by decide)) b
 have c2:=za (i.out.1 2 (by decide)) b
 have c3:=za (i.out.1 3 (by decide)) b
 have c4:=za (i.out.1 4 (by decide)) b
 have c5:=za (i.out.1 5 (by decide)) b
 have c6:=za (i.out.1 6 (by decide)) b
 have N:=za i.out.2.1 b;have M:=za i.out.2.2.1 b;have z:∀o,q.frozen? ⟨s,o,none⟩=false:=fun o=>(b.frozen (p:=⟨s,o,none⟩) (Nat.lt_trans g.out.1 g.out.2.1)).trans (i.out.2.2.2.1 o)
 have zf:∀o,q.frozen? ⟨f,o,none⟩=false:=fun o=>(b.frozen (p:=⟨f,o,none⟩) g.out.2.1).trans (i.out.2.2.2.2 o)
 have u:f<q.heap.size:=zom g.out.2.1 b.size;have J:s<q.heap.size:=Nat.lt_trans g.out.1 u;have l:s≠f:=Nat.ne_of_lt g.out.1;have d:w.heap.size<=s:=g.out.2.2;have r:w.heap.size<=f:=zoz d (Nat.le_of_lt g.out.1);have I:=hid d;have m:=hid r;have set7:Hid (∀x:World,Below w.heap.size w x->Below w.heap.size w (((((((x.setCell ⟨s,0,none⟩ (.slice none 0 0)).setCell ⟨s,1,none⟩ (.slice none 0 0)).setCell ⟨s,2,none⟩ (.slice none 0 0)).setCell ⟨s,3,none⟩ (.slice none 0 0)).setCell ⟨s,4,none⟩ (.slice none 0 0)).setCell ⟨s,5,none⟩ (.slice none 0 0)).setCell ⟨s,6,none⟩ (.slice none 0 0))):=fun x h=>((((((h.setCell (p:=⟨s,0,none⟩) d _).setCell (p:=⟨s,1,none⟩) d _).setCell (p:=⟨s,2,none⟩) d _).setCell (p:=⟨s,3,none⟩) d _).setCell (p:=⟨s,4,none⟩) d _).setCell (p:=⟨s,5,none⟩) d _).setCell (p:=⟨s,6,none⟩) d _
 clear B i g b d r;go_wp2_with fail
 go_region
 all_goals
  go_wp2;exact bodyPost_ret (v:=.tuple #[zpv,.agg #[.int .i64 C,.int .i64 A]]) (by simp[results,Tryz.results9,go_sem, *]) rfl ⟨rfl,(ze (((set7.out q y.out).setCell (p:=⟨f,0,none⟩) m.out _).setCell (p:=⟨f,1,none⟩) m.out _)).drew⟩
@[reducible] def CD(a:Nat):PlanD:=⟨⟨none,0,0⟩,[],⟨none,0,0⟩,[],⟨some ⟨a,0,none⟩,1,1⟩,[⟨-1,⟨0,0⟩,⟨none,0,0⟩,[],1000⟩],⟨none,0,0⟩,[],⟨none,0,0⟩,[],⟨none,0,0⟩,[],⟨none,0,0⟩,[]⟩
theorem CD.lie{w:World}{a:Nat}(e:w.cell? ⟨a,0,none⟩=some (.int .i64 (-1)))(h:w.cell? ⟨a,1,none⟩=some (.int .i64 0))(f:w.cell? ⟨a,2,none⟩=some (.int .i64 0))(c:w.cell? ⟨a,3,none⟩=some (.slice none 0 0))(g:w.cell? ⟨a,4,none⟩=some (.int .i64 1000)):(CD a).lie w:=by
 refine⟨⟨rfl,by simp⟩,zW _ _,⟨rfl,fun i d b=>?_⟩,⟨rfl,by simp⟩,⟨rfl,by simp⟩,⟨rfl,by simp⟩,zW _ _,zos _⟩
 match i,b with
 |0,b=>
  obtain rfl:_=d:=zoq b;exact⟨a,0,rfl,⟨e,by decide⟩,⟨h,by decide⟩,⟨f,by decide⟩,⟨c,fun _=>⟨rfl,rfl⟩⟩,⟨g,by decide⟩,⟨rfl,by simp⟩⟩
theorem CD.chk(a:Nat):zD (CD a).p=(0,0):=by
 show zD ⟨[],[],[⟨-1,⟨0,0⟩,[],1000⟩],[],[],[],[]⟩=(0,0);decide+kernel
theorem CD.body(a:Nat):zpo (CD a)=[83,89,1,0,0,2,1,0,208,15,0,0,0,0]:=by
 have e:zpo (CD a)=zpo (CD 0):=rfl;rw[e];decide+kernel
theorem CD.few(b:Nat):(CD b).wfew:=by
 refine⟨⟨zon _,by simp⟩,zon _,⟨(show 1<=100000 by decide),fun y a=>?_⟩,⟨zon _,by simp⟩,⟨zon _,by simp⟩,⟨zon _,by simp⟩,zon _⟩
 simp only[zoD,zoA,or_false]at a;subst a;decide
theorem CD.small(a:Nat):(CD a).small:=⟨zon _,by simp,by simp,zon _⟩
theorem zs3:Mth.crc [49,50,51,52,53,54,55,56,57]=3421780262:=by decide+kernel
theorem zsn(w:World)(zs:List Int)(hz:Mth.Byt zs)(f:Nat × Nat):Has .u8 (w.alloc (.cells (BB zs).toArray 5 f)) (some ⟨w.heap.size,0,none⟩) zs.length zs:=by
 refine⟨rfl,fun n a=>zi6 n (hz n a),.inr ⟨w.heap.size,0,rfl,by simp,fun i hi=>?_⟩⟩
 have:(w.alloc (.cells (BB zs).toArray 5 f)).heap[w.heap.size]?=some (.cells (BB zs).toArray 5 f):=heap_alloc_new w _;have e:(BB zs).toArray[i]?=some (.int .u8 (zs.getD i 0)):=by
  simp only[List.getElem?_toArray,BB,zoy,zoi,zoh hi,Option.map_some,zoC]
 generalize(BB zs).toArray=cur at*;generalize w.alloc (.cells cur 5 f)=W at*;rw[zoK];simp only[World.cell?,this];exact e
theorem zr1(w:World):Calls Tryz.prog 4 #[] w fun e w'=>e=.returned (.bool true)/\Below w.heap.size w w':=by
 obtain⟨f,hW⟩:∃f,f=w.alloc (.cells #[.int .i64 (-1),.int .i64 0,.int .i64 0,.slice none 0 0,.int .i64 1000] 51):=⟨_,rfl⟩;obtain⟨a,hp⟩:∃a,a=w.heap.size:=⟨_,rfl⟩;have d:(CD a).lie f:=by
  rw[hW,hp];refine CD.lie ?_ ?_ ?_ ?_ ?_<;>exact(zod _ _ _ _ rfl).trans rfl
 have B:Hid (Below w.heap.size w f):=by rw[hW];exact ze (zof _ _)
 have F:(zpJ (CD a)).length=18:=by rw[zrE,CD.body];rfl
 have l:Hid (Calls Tryz.prog 7 #[(CD a).v] f fun e w'=>∃g cap,e=.returned (.tuple #[.slice (some ⟨g,0,none⟩) 18 cap,.agg #[.int .i64 0,.int .i64 0]])/\(∀i,i<18->w'.cell? ⟨g,i,none⟩=some (.int .u8 ((zpJ (CD a)).getD i 0)))/\Below f.heap.size f w'):=
  (zsc (CD a) f d (CD.small a) (CD.few a) (by rw[CD.body];decide)).mono fun e w' h=>by
   rcases h with⟨h,_⟩|⟨_,g,cap,D,G,hb⟩
   ·rw[CD.chk]at h;exact absurd rfl h
   ·rw[F]at D G;refine⟨g,cap,D,fun i hi=>?_,hb⟩
    rw[G.cellAt i (by omega)]
    simp only[BB,zoy,zoi];rw[zoh (by omega)];rfl
 have y:Hid (∀w':World,Calls Tryz.prog 13 #[.slice (some ⟨w'.heap.size,0,none⟩) 9 9] (w'.alloc (.cells #[.int .u8 49,.int .u8 50,.int .u8 51,.int .u8 52,.int .u8 53,.int .u8 54,.int .u8 55,.int .u8 56,.int .u8 57] 5 (9,10))) fun e j=>e=.returned (.int .u32 3421780262)/\j=w'.alloc (.cells #[.int .u8 49,.int .u8 50,.int .u8 51,.int .u8 52,.int .u8 53,.int .u8 54,.int .u8 55,.int .u8 56,.int .u8 57] 5 (9,10))):=fun w'=>by
  have:=zrI _ 9 9 _ _ (by decide) (zsn w' [49,50,51,52,53,54,55,56,57] (by intro x J;simp only[zoD,zoA,or_false]at J;omega) (9,10))
  rw[zs3]at this;exact this
 have t:(zpJ (CD a)).getD 5 0=2:=by unfold zpJ;rw[CD.body];rfl
 have s:(zpJ (CD a)).getD 8 0=208:=by unfold zpJ;rw[CD.body];rfl
 have E:(zpJ (CD a)).getD 9 0=15:=by unfold zpJ;rw[CD.body];rfl
 have C:=hid t;have H:=hid s;have A:=hid E;have r:=hid hW;have u:=hid hp;clear d F t s E hW hp;go_enter Tryz.func4,Tryz.ntmps4
 go_wp2_with fail
 rw[<-r.out,<-u.out];refine l.out.mono ?_;rintro e b ⟨g,cap,rfl,c,k⟩;have q5:=c 5 (by decide)
 have I:=c 8 (by decide)
 have K:=c 9 (by decide)
 rw[C.out]at q5;rw[H.out]at I;rw[A.out]at K;have n:=hid (zh B.out k);have L:g<b.heap.size:=zog b _ q5;have q:∀o,(convert 30 30 (.slice (some ⟨b.heap.size+1,0,none⟩) 9 9)).run Tryz.prog ((b.alloc o).alloc (.cells #[.int .u8 49,.int .u8 50,.int .u8 51,.int .u8 52,.int .u8 53,.int .u8 54,.int .u8 55,.int .u8 56,.int .u8 57] 5))=.ok (.slice (some ⟨b.heap.size+1,0,none⟩) 9 9) ((b.alloc o).alloc (.cells #[.int .u8 49,.int .u8 50,.int .u8 51,.int .u8 52,.int .u8 53,.int .u8 54,.int .u8 55,.int .u8 56,.int .u8 57] 5 (9,10))):=fun o=>by
  have:=Lib.run_convert_bytes_const (P:=Tryz.prog) (b.alloc o) 30 5 #[.int .u8 49,.int .u8 50,.int .u8 51,.int .u8 52,.int .u8 53,.int .u8 54,.int .u8 55,.int .u8 56,.int .u8 57] 9 9 Tryz.underlying30 Tryz.underlying5;simpa using this
 have m:Hid (∀o,Calls Tryz.prog 13 #[.slice (some ⟨b.heap.size+1,0,none⟩) 9 9] ((b.alloc o).alloc (.cells #[.int .u8 49,.int .u8 50,.int .u8 51,.int .u8 52,.int .u8 53,.int .u8 54,.int .u8 55,.int .u8 56,.int .u8 57] 5 (9,10))) fun e j=>e=.returned (.int .u32 3421780262)/\j=(b.alloc o).alloc (.cells #[.int .u8 49,.int .u8 50,.int .u8 51,.int .u8 52,.int .u8 53,.int .u8 54,.int .u8 55,.int .u8 56,.int .u8 57] 5 (9,10))):=fun o=>by
  have:=y.out (b.alloc o);simpa using this
 clear l B r u c k C H A y;go_wp2_with fail
 refine(m.out _).mono ?_;rintro e w2 ⟨rfl,rfl⟩;clear m q;go_wp2;go_ret;exact⟨rfl,ze (ze n.out)⟩
def zpH(zs:List Int)(w:World)(e:Ending)(w':World):Prop:=Below w.heap.size w w'/\match zq3 zs with
 |none=>∃C A:Int,C≠0/\zps zs=.error (C,A)/\e=.returned (.tuple #[zpv,.agg #[.int .i64 C,.int .i64 A]])
 |some x=>∃v,PlanV w x w' v/\e=.returned (.tuple #[v,.agg #[.int .i64 0,.int .i64 0]])
theorem zsL{M:Nat}{x:PlanX}(h:x.few M)(W:M<=10000){d:PlanD}{w:World}(c:d.lie w)(k:d.p=zp0 x):d.small/\d.wfew:=by
 have O:M<=100000:=by omega
 have A:d.hs.map HeadD.ws=x.heads:=congrArg PPlan.hs k;have H:d.ms=x.mt:=congrArg PPlan.ms k;have E:d.ss.map StateD.p=x.states.map zpL:=congrArg PPlan.ss k;have D:d.al.map ActD.p=x.acts.map zqW:=congrArg PPlan.al k;have C:d.ts.map TabD.p=x.tabs.map zqL:=congrArg PPlan.ts k;have F:d.ns.map NodeD.p=x.nodes.map zp3:=congrArg PPlan.ns k;have K:d.os=x.out:=congrArg PPlan.os k;have Y:d.heads.n<=M:=by rw[<-c.hs.1];have:=congrArg List.length A;rw[zoE]at this;rw[this];exact h.hs.1
 have X:d.mta.n<=M:=by rw[<-c.ms.1,H];exact h.ms
 have U:d.states.n<=M:=by rw[<-c.ss.1];have:=congrArg List.length E;rw[zoE,zoE]at this;rw[this];exact h.ss.1
 have Q:d.acts.n<=M:=by rw[<-c.al.1];have:=congrArg List.length D;rw[zoE,zoE]at this;rw[this];exact h.al.1
 have T:d.tabs.n<=M:=by rw[<-c.ts.1];have:=congrArg List.length C;rw[zoE,zoE]at this;rw[this];exact h.ts.1
 have Z:d.nodes.n<=M:=by rw[<-c.ns.1];have:=congrArg List.length F;rw[zoE,zoE]at this;rw[this];exact h.ns.1
 have R:d.out.n<=M:=by rw[<-c.os.1,K];exact h.os
 have N:∀y∈d.hs,y.w.n<=M:=fun y a=>by
  obtain⟨g,o,b⟩:=zrD c.hs y a;have i:y.ws∈x.heads:=by rw[<-A];exact zoJ.2 ⟨y,a,rfl⟩
  rw[<-b.2.1];exact h.hs.2 _ i
 have hs:∀y∈d.ss,y.cases.n<=M:=fun y a=>by
  obtain⟨g,o,b⟩:=zrD c.ss y a;have i:y.p∈x.states.map zpL:=by rw[<-E];exact zoJ.2 ⟨y,a,rfl⟩
  obtain⟨z,hz,f⟩:=zoJ.1 i;have e:z.cs.map zqe=y.cs:=congrArg PState.cs f;rw[<-b.2.2.2.2.2.1,<-e,zoE];exact h.ss.2 z hz
 have ha:∀y∈d.al,y.w.n<=M/\y.ops.n<=M/\∀o∈y.os,o.e.n<=M:=fun y a=>by
  obtain⟨g,o,b⟩:=zrD c.al y a;have i:y.p∈x.acts.map zqW:=by rw[<-D];exact zoJ.2 ⟨y,a,rfl⟩
  obtain⟨z,hz,f⟩:=zoJ.1 i;have j:=h.al.2 z hz;have L:z.w=y.ws:=congrArg PAct.ws f;have u:z.ops.map zpS=y.os.map OpD.p:=congrArg PAct.os f;refine⟨by rw[<-b.2.2.1.1,<-L];exact j.1,?_,fun o l=>?_⟩
  ·rw[<-b.2.2.2.1];have:=congrArg List.length u;rw[zoE,zoE]at this;rw[<-this];exact j.2.1
  ·obtain⟨V,S,t⟩:=zrD b.2.2.2 o l;have r:o.p∈z.ops.map zpS:=by rw[u];exact zoJ.2 ⟨o,l,rfl⟩
   obtain⟨q,m,eq⟩:=zoJ.1 r;have s:zqx q.e=o.es:=congrArg POp.es eq;rw[<-t.2.2.2.2.2.1,<-s];exact j.2.2 q m
 have B:∀y∈d.ts,y.keys.n<=M/\y.acts.n<=M/\y.args.n<=M:=fun y a=>by
  obtain⟨g,o,b⟩:=zrD c.ts y a;have i:y.p∈x.tabs.map zqL:=by rw[<-C];exact zoJ.2 ⟨y,a,rfl⟩
  obtain⟨z,hz,f⟩:=zoJ.1 i;have j:=h.ts.2 z hz;have J:z.keys.map zqu=y.ks:=congrArg PTab.ks f;have G:z.acts=y.al:=congrArg PTab.al f;have I:z.args=y.zs:=congrArg PTab.zs f;refine⟨?_,?_,?_⟩
  ·rw[<-b.2.2.2.2.2.2.1.1,<-J,zoE];exact j.1
  ·rw[<-b.2.2.2.2.2.2.2.1.1,<-G];exact j.2.1
  ·rw[<-b.2.2.2.2.2.2.2.2.1,<-I];exact j.2.2
 have P:∀y∈d.ns,y.e.n<=M:=fun y a=>by
  obtain⟨g,o,b⟩:=zrD c.ns y a;have i:y.p∈x.nodes.map zp3:=by rw[<-F];exact zoJ.2 ⟨y,a,rfl⟩
  obtain⟨z,hz,f⟩:=zoJ.1 i;have s:zqx z.e=y.es:=congrArg PNode.es f;rw[<-b.2.2.2.2.2.1,<-s];exact h.ns.2 z hz
 refine⟨⟨by omega,fun y a=>by have:=(ha y a).1;omega,fun y a=>by have:=B y a;omega,by omega⟩,⟨⟨by omega,fun y a=>by have:=N y a;omega⟩,by omega,⟨by omega,fun y a=>by have:=hs y a;omega⟩,⟨by omega,fun y a=>⟨by have:=(ha y a).1;omega,by have:=(ha y a).2.1;omega,fun o l=>by have:=(ha y a).2.2 o l;omega⟩⟩,⟨by omega,fun y a=>by have:=B y a;omega⟩,⟨by omega,fun y a=>by have:=P y a;omega⟩,by omega⟩⟩
structure DcAt (w W : World) (s f b6 b7 : Nat) (vs : List Value) (C A : Int) : Prop where
 s0 : ∀ k, k < 7 -> W.cell? ⟨s, k, none⟩ = some (.slice none 0 0)
 f0 : W.cell? ⟨f, 0, none⟩ = some (.int .i64 0)
 f1 : W.cell? ⟨f, 1, none⟩ = some (.int .i64 0)
 zs : ∀ o, W.frozen? ⟨s, o, none⟩ = false
 zf : ∀ o, W.frozen? ⟨f, o, none⟩ = false
 c6 : ∀ (k : Nat) (v : Value), vs[k]? = some v -> W.cell? ⟨b6, k, none⟩ = some v
 c7 : W.cell? ⟨b7, 0, none⟩ = some (.int .i64 C)
 d7 : W.cell? ⟨b7, 1, none⟩ = some (.int .i64 A)
 z7 : ∀ o, W.frozen? ⟨b7, o, none⟩ = false
 bel : Below w.heap.size w W
 lo : w.heap.size <= s
 o1 : s < f
 o2 : f < b6
 o3 : b6 < b7
 o4 : b7 < W.heap.size
theorem DcAt.step{w W d:World}{s f c a:Nat}{e:List Value}{C A:Int}(h:DcAt w W s f c a e C A)(b:Below W.heap.size W d):DcAt w d s f c a e C A:=
 ⟨fun k g=>za (h.s0 k g) b,za h.f0 b,za h.f1 b,fun o=>(b.frozen (p:=⟨s,o,none⟩) (by have:=h.o1;have:=h.o2;have:=h.o3;have:=h.o4;show s<_;omega)).trans (h.zs o),fun o=>(b.frozen (p:=⟨f,o,none⟩) (by have:=h.o2;have:=h.o3;have:=h.o4;show f<_;omega)).trans (h.zf o),fun k v i=>za (h.c6 k v i) b,za h.c7 b,za h.d7 b,fun o=>(b.frozen (p:=⟨a,o,none⟩) h.o4).trans (h.z7 o),zh h.bel b,h.lo,h.o1,h.o2,h.o3,zom h.o4 b.size⟩
theorem DcAt.put{w W:World}{s f e b:Nat}{i:List Value}{C A:Int}(h:DcAt w W s f e b i C A)(d c:Int):DcAt w ((W.setCell ⟨b,0,none⟩ (.int .i64 d)).setCell ⟨b,1,none⟩ (.int .i64 c)) s f e b i d c:=by
 have q:=h.lo;have u:=h.o1;have r:=h.o2;have n:=h.o3;have st:∀(g o:Nat) (v:Value),g<b->W.cell? ⟨g,o,none⟩=some v->((W.setCell ⟨b,0,none⟩ (.int .i64 d)).setCell ⟨b,1,none⟩ (.int .i64 c)).cell? ⟨g,o,none⟩=some v:=fun g o v t j=>(zou _ _ _ _ (by simp only[ne_eq,Addr.mk.injEq];omega)).trans ((zou _ _ _ _ (by simp only[ne_eq,Addr.mk.injEq];omega)).trans j)
 have fz:∀a,((W.setCell ⟨b,0,none⟩ (.int .i64 d)).setCell ⟨b,1,none⟩ (.int .i64 c)).frozen? a=W.frozen? a:=fun a=>(World.frozen?_setCell _ _ _ _).trans (World.frozen?_setCell _ _ _ _)
 exact⟨fun k l=>st _ _ _ (by omega) (h.s0 k l),st _ _ _ (by omega) h.f0,st _ _ _ (by omega) h.f1,fun o=>(fz _).trans (h.zs o),fun o=>(fz _).trans (h.zf o),fun k v m=>st _ _ _ (by omega) (h.c6 k v m),(zou _ _ _ _ (by simp)).trans (zot _ _ _ h.c7),zot _ _ _ ((zou _ _ _ _ (by simp)).trans h.d7),fun o=>(fz _).trans (h.z7 o),(h.bel.setCell (p:=⟨b,0,none⟩) (by show w.heap.size<=b;omega) _).setCell (p:=⟨b,1,none⟩) (by show w.heap.size<=b;omega) _,h.lo,h.o1,h.o2,h.o3,by have:=h.o4;simpa[World.setCell]using this⟩
theorem zuP{w a d:World}{s f:Nat}(m:∀k,k<7->a.cell? ⟨s,k,none⟩=some (.slice none 0 0))(e:a.cell? ⟨f,0,none⟩=some (.int .i64 0))(j:a.cell? ⟨f,1,none⟩=some (.int .i64 0))(l:∀o,a.frozen? ⟨s,o,none⟩=false)(i:∀o,a.frozen? ⟨f,o,none⟩=false)(g:Below w.heap.size w a)(n:w.heap.size<=s)(r:s<f)(b:Below a.heap.size a d)(v1 v2 v3 v4 v5 v6 h:Value)(C A:Int):DcAt w ((d.alloc (.cells #[v1,v2,v3,v4,v5,v6,h] 29)).alloc (.cells #[.int .i64 C,.int .i64 A] 35)) s f d.heap.size (d.heap.size+1) [v1,v2,v3,v4,v5,v6,h] C A:=by
 have q:f<a.heap.size:=zog _ _ e;have c:Below a.heap.size a ((d.alloc (.cells #[v1,v2,v3,v4,v5,v6,h] 29)).alloc (.cells #[.int .i64 C,.int .i64 A] 35)):=ze (ze b);refine⟨fun k t=>za (m k t) c,za e c,za j c,fun o=>(c.frozen (p:=⟨s,o,none⟩) (by show s<_;omega)).trans (l o),fun o=>(c.frozen (p:=⟨f,o,none⟩) q).trans (i o),fun k v u=>?_,(zod _ _ _ _ (by simp)).trans rfl,(zod _ _ _ _ (by simp)).trans rfl,fun o=>zoB _ _ _ _ (by simp),zh g c,n,r,zom q b.size,by omega,by simp⟩
 refine(zoe _ _ _ (by simp)).trans ((zod _ _ _ _ rfl).trans ?_)
 have:([v1,v2,v3,v4,v5,v6,h].toArray)[k]?=some v:=by rw[List.getElem?_toArray];exact u
 exact this
theorem zrS(a:Option Addr)(n c:Nat)(zs:List Int)(w:World)(d2:n<=c)(hz:Has .u8 w a n zs)(hb:(zo1 zs).1=0):
 Calls Tryz.prog 9 #[.slice a n c] w (zpH zs w):=by
 have h9:∀(W:World) (x y:Int),(Instr.field 35 (.agg #[.int .i64 x,.int .i64 y]) 0).run Tryz.prog W=.ok (.int .i64 x) W:=fun _ _ _=>by kernel_rfl
 obtain⟨d5,h7,h8,-,-⟩:=zrR hb;have g3:=hz.1;obtain⟨Z,hW⟩:∃Z,Z=((w.alloc (.cells #[.slice none 0 0,.slice none 0 0,.slice none 0 0,.slice none 0 0,.slice none 0 0,.slice none 0 0,.slice none 0 0] 29)).alloc (.cells #[.int .i64 0,.int .i64 0] 35)):=⟨_,rfl⟩;obtain⟨s,es⟩:∃s,s=w.heap.size:=⟨_,rfl⟩;obtain⟨f,ef⟩:∃f,f=w.heap.size+1:=⟨_,rfl⟩;have HB:Hid (Below w.heap.size w Z):=by rw[hW];exact ze (ze (zof _ _))
 have hc:(∀k,k<7->Z.cell? ⟨s,k,none⟩=some (.slice none 0 0))/\Z.cell? ⟨f,0,none⟩=some (.int .i64 0)/\Z.cell? ⟨f,1,none⟩=some (.int .i64 0)/\(∀o,Z.frozen? ⟨s,o,none⟩=false)/\∀o,Z.frozen? ⟨f,o,none⟩=false:=by
  rw[hW,es,ef];refine⟨fun k hk=>?_,?_,?_,fun o=>?_,fun o=>?_⟩
  ·rcases(show k=0\/k=1\/k=2\/k=3\/k=4\/k=5\/k=6 by omega)with rfl|rfl|rfl|rfl|rfl|rfl|rfl<;>exact(zoe _ _ _ (by simp)).trans ((zod _ _ _ _ rfl).trans rfl)
  ·exact(zod _ _ _ _ (by simp)).trans rfl
  ·exact(zod _ _ _ _ (by simp)).trans rfl
  ·exact(World.frozen?_alloc_past _ _ _ (by simp)).trans (zoB _ _ _ _ rfl)
  ·exact zoB _ _ _ _ (by simp)
 have HF:=hid (zru a n c zs Z (by omega) d2 (hz.step HB.out))
 have a8:s<f/\f<Z.heap.size/\w.heap.size<=s:=by rw[hW,es,ef];simp
 have HZ:=hid hz;have EW:=hid hW;have ES:=hid es;have EF:=hid ef;have HC:=hid hc;have T:=hid a8;have U:=hid d5;unfold zqo at HF;rw[d5]at HF;obtain⟨Q,eys⟩:∃Q,Q=zs.take (zs.length-4):=⟨_,rfl⟩;have e3:Q.length=n-4:=by rw[eys,List.length_take];omega
 have EY:=hid eys;have h2:=hid e3;obtain⟨m,em⟩:∃m:Nat,m=n-4:=⟨_,rfl⟩;have e2:(n:Int)-4=(m:Int):=by omega
 have b1:IntKind.i64.wrap ((n:Int)-4)=(m:Int):=by rw[e2];exact zX _ (by omega) (by omega)
 have V:Hid (3<=m/\m<=8000/\m<=n/\n<=c/\Q.length=m/\m=zs.length-4):=⟨by omega,by omega,by omega,d2,by omega,by omega⟩
 have h3:(m:Int)<=(c:Int):=by omega
 have e1:=hid b1;clear hz hW es ef hc hb a8 d5 h7 h8 g3 eys e3 em e2 d2 b1;go_enter Tryz.func9,Tryz.ntmps9
 go_wp2_with fail
 rw[<-EW.out,<-EF.out,<-ES.out];refine HF.out.mono ?_;rintro e w1 ⟨rfl,f3⟩;clear HF EW ES EF;obtain⟨J,eW3⟩:∃J,J=w1.alloc (.cells #[.int .i64 0,.int .i64 0] 35):=⟨_,rfl⟩;have b8:Below Z.heap.size Z J:=by rw[eW3];exact ze f3
 have Y:=hid b8;have R:=hid (zh HB.out b8);have d6:Hid (Has .u8 J a Q.length Q):=by
  have:=zqn (HZ.out.step R.out) m V.out.2.2.1;show Has .u8 J a Q.length Q;rw[V.out.2.2.2.2.1,EY.out,<-V.out.2.2.2.2.2];exact this
 have d9:=hid (zs1 a c Q J d6.out (by rw[V.out.2.2.2.2.1];exact V.out.1) (by rw[V.out.2.2.2.2.1];have:=V.out.2.1;omega) (fun ad f9=>by
  obtain⟨g,o,e,hg,_⟩:=d6.out.some (by rw[V.out.2.2.2.2.1];have:=V.out.1;omega)
  rw[e]at f9;cases f9
  exact hg))
 rw[V.out.2.2.2.2.1]at d9;have e8:=hid eW3;have t0:J.cell? ⟨w1.heap.size,0,none⟩=some (.int .i64 0):=by rw[eW3];exact(zod _ _ _ _ rfl).trans rfl
 clear eW3 b8 f3;have b1:=e1.out;go_upto_region 5 with fail
 rw[<-e8.out];have O:Hid ((∀k,k<7->J.cell? ⟨s,k,none⟩=some (.slice none 0 0))/\J.cell? ⟨f,0,none⟩=some (.int .i64 0)/\J.cell? ⟨f,1,none⟩=some (.int .i64 0)/\(∀o,J.frozen? ⟨s,o,none⟩=false)/\∀o,J.frozen? ⟨f,o,none⟩=false):=⟨fun k hk=>za (HC.out.1 k hk) Y.out,za HC.out.2.1 Y.out,za HC.out.2.2.1 Y.out,fun o=>(Y.out.frozen (p:=⟨s,o,none⟩) (Nat.lt_trans T.out.1 T.out.2.1)).trans (HC.out.2.2.2.1 o),fun o=>(Y.out.frozen (p:=⟨f,o,none⟩) T.out.2.1).trans (HC.out.2.2.2.2 o)⟩
 have f4:Hid (f<J.heap.size/\s<J.heap.size):=⟨zog _ _ O.out.2.1,zog _ _ (O.out.1 0 (by decide))⟩
 have g6:Hid (w.heap.size<=J.heap.size):=R.out.size;clear e8 t0 HC HB HZ d6 b1 e1;go_wp2_with fail
 refine d9.out.mono ?_;rintro e w4 ⟨b9,hr⟩;clear d9;have g7:∃(I H L M N F P:Option Addr) (l E t D B q r:Nat) (C A:Int),e=.returned (.tuple #[.agg #[.slice I l l,.slice H E E,.slice L t t,.slice M D D,.slice N B B,.slice F q q,.slice P r r],.agg #[.int .i64 C,.int .i64 A]])/\((C≠0/\zq3 zs=none/\zps zs=.error (C,A))\/(C=0/\∃x,PlanV J x w4 (.agg #[.slice I l l,.slice H E E,.slice L t t,.slice M D D,.slice N B B,.slice F q q,.slice P r r])/\zpq Q 3=.ok (x,Q.length))):=by
  cases hq:zpq Q 3 with
  |error er=>
   obtain⟨b4,e9⟩:=er;rw[hq]at hr;obtain⟨v,⟨I,H,L,M,N,F,P,l,E,t,D,B,q,r,rfl⟩,he⟩:=hr;refine⟨I,H,L,M,N,F,P,l,E,t,D,B,q,r,b4,e9,he,.inl ⟨zts Q 3 b4 e9 hq,?_,?_⟩⟩
   ·unfold zq3;rw[U.out,if_neg (by decide),<-EY.out,hq]
   ·unfold zps;rw[U.out,if_neg (by decide),<-EY.out,hq]
  |ok y=>
   obtain⟨x,u⟩:=y;rw[hq]at hr;rcases hr with⟨f7,v,⟨I,H,L,M,N,F,P,l,E,t,D,B,q,r,rfl⟩,he⟩|⟨rfl,v,hv,he⟩
   ·refine⟨I,H,L,M,N,F,P,l,E,t,D,B,q,r,4,(u:Int),he,.inl ⟨by decide,?_,?_⟩⟩
    ·unfold zq3;rw[U.out,if_neg (by decide),<-EY.out,hq]
     dsimp only;rw[if_pos f7]
    ·unfold zps;rw[U.out,if_neg (by decide),<-EY.out,hq]
     dsimp only;rw[if_pos f7]
   ·obtain⟨I,H,L,M,N,F,P,l,E,t,D,B,q,r,rfl⟩:=hv.sl;exact⟨I,H,L,M,N,F,P,l,E,t,D,B,q,r,0,0,he,.inr ⟨rfl,x,hv,rfl⟩⟩
 obtain⟨I,H,L,M,N,F,P,l,E,t,D,B,q,r,C,A,rfl,hk⟩:=g7;have HK:=hid hk;have HD:Hid (DcAt w ((w4.alloc (.cells #[.slice I l l,.slice H E E,.slice L t t,.slice M D D,.slice N B B,.slice F q q,.slice P r r] 29)).alloc (.cells #[.int .i64 C,.int .i64 A] 35)) s f w4.heap.size (w4.heap.size+1) [.slice I l l,.slice H E E,.slice L t t,.slice M D D,.slice N B B,.slice F q q,.slice P r r] C A):=zuP O.out.1 O.out.2.1 O.out.2.2.1 O.out.2.2.2.1 O.out.2.2.2.2 R.out T.out.2.2 T.out.1 b9 (.slice I l l) (.slice H E E) (.slice L t t) (.slice M D D) (.slice N B B) (.slice F q q) (.slice P r r) C A;obtain⟨W5,e5⟩:∃W5,W5=(w4.alloc (.cells #[.slice I l l,.slice H E E,.slice L t t,.slice M D D,.slice N B B,.slice F q q,.slice P r r] 29)).alloc (.cells #[.int .i64 C,.int .i64 A] 35):=⟨_,rfl⟩;obtain⟨b6,e6⟩:∃b6,b6=w4.heap.size:=⟨_,rfl⟩;obtain⟨b7,e7⟩:∃b7,b7=w4.heap.size+1:=⟨_,rfl⟩;rw[<-e5,<-e7,<-e6]at HD;have c9:Hid (Below w4.heap.size w4 W5):=by rw[e5];exact ze (ze (zof _ _))
 have h6:=hid b9;have E5:=hid e5;have E6:=hid e6;have E7:=hid e7;clear hr hk e5 e6 e7 b9 O Y R T;dsimp only;go_upto_region 6 with fail
 rw[<-E5.out,<-E7.out,<-E6.out];clear E5;rcases HK.out with⟨hC,b3,e0⟩|⟨hC,x,hv,b2⟩
 ·have HE:Hid (∀w',Below w.heap.size w w'->zpH zs w (.returned (.tuple #[zpv,.agg #[.int .i64 C,.int .i64 A]])) w'):=fun w' a9=>by
   unfold zpH;rw[b3];exact⟨a9,C,A,hC,e0,rfl⟩
  have d3:=hid e0;clear e0;have h4:(C==0)=false:=by simpa using hC
  have i1:(C !=0)=true:=by simpa using hC
  clear HK b3 hC;have c0:=HD.out.s0 0 (by decide)
  have c1:=HD.out.s0 1 (by decide)
  have c2:=HD.out.s0 2 (by decide)
  have c3:=HD.out.s0 3 (by decide)
  have c4:=HD.out.s0 4 (by decide)
  have c5:=HD.out.s0 5 (by decide)
  have c6:=HD.out.s0 6 (by decide)
  have y0:=HD.out.f0;have y1:=HD.out.f1;have z:=HD.out.zs;have zf:=HD.out.zf;have q0:=HD.out.c7;have q1:=HD.out.d7;have f6:f<W5.heap.size:=zog _ _ y0;have f8:s<W5.heap.size:=zog _ _ c0;have a8:s≠f:=Nat.ne_of_lt HD.out.o1;have g0:s≠b7:=by have:=HD.out.o1;have:=HD.out.o2;have:=HD.out.o3;omega
  have g5:f≠b7:=by have:=HD.out.o2;have:=HD.out.o3;omega
  have b:w.heap.size<=s:=HD.out.lo;have G:w.heap.size<=f:=zoz b (Nat.le_of_lt HD.out.o1);have g1:=hid b;have b0:=hid G;have d0:=hid HD.out.bel;have set7:Hid (∀x:World,Below w.heap.size w x->Below w.heap.size w (((((((x.setCell ⟨s,0,none⟩ (.slice none 0 0)).setCell ⟨s,1,none⟩ (.slice none 0 0)).setCell ⟨s,2,none⟩ (.slice none 0 0)).setCell ⟨s,3,none⟩ (.slice none 0 0)).setCell ⟨s,4,none⟩ (.slice none 0 0)).setCell ⟨s,5,none⟩ (.slice none 0 0)).setCell ⟨s,6,none⟩ (.slice none 0 0))):=fun x h=>((((((h.setCell (p:=⟨s,0,none⟩) b _).setCell (p:=⟨s,1,none⟩) b _).setCell (p:=⟨s,2,none⟩) b _).setCell (p:=⟨s,3,none⟩) b _).setCell (p:=⟨s,4,none⟩) b _).setCell (p:=⟨s,5,none⟩) b _).setCell (p:=⟨s,6,none⟩) b _
  clear HD b G;go_wp2_with fail
  go_region
  all_goals
   go_wp2;exact bodyPost_ret (v:=.tuple #[zpv,.agg #[.int .i64 C,.int .i64 A]]) (by simp[results,Tryz.results9,go_sem, *]) rfl (HE.out _ (((set7.out _ d0.out).setCell (p:=⟨f,0,none⟩) b0.out _).setCell (p:=⟨f,1,none⟩) b0.out _).drew)
 ·subst hC;obtain⟨d,ed,c8,g8,d4⟩:=zsu hv;have d1:=hid hv;have b5:=zqY 8000 Q 3 x Q.length (by rw[V.out.2.2.2.2.1];exact V.out.2.1) b2
  obtain⟨e4,-⟩:=zsL b5 (by decide) c8 d4
  have S:=hid (zcT d W5 (c8.step c9.out) e4);rw[d4]at S;rw[<-ed]at S;have a0:Hid (zq3 zs=if(zD (zp0 x)).1≠0 then none else some x):=by
   show zq3 zs=_;unfold zq3;rw[U.out,if_neg (by decide),<-EY.out,b2]
   dsimp only;rw[if_neg (Nat.lt_irrefl _)]
  have d3:Hid ((zD (zp0 x)).1≠0->zps zs=.error (5,(m:Int))):=fun g4=>by
   unfold zps;rw[U.out,if_neg (by decide),<-EY.out,b2]
   dsimp only;rw[if_neg (Nat.lt_irrefl _),if_pos g4,V.out.2.2.2.2.1]
  clear HK c8 g8 d4 e4 b5 ed d hv b2;have r0:=HD.out.c6 0 _ rfl;have r1:=HD.out.c6 1 _ rfl;have r2:=HD.out.c6 2 _ rfl;have r3:=HD.out.c6 3 _ rfl;have r4:=HD.out.c6 4 _ rfl;have r5:=HD.out.c6 5 _ rfl;have r6:=HD.out.c6 6 _ rfl;have q0:=HD.out.c7;generalize h0:(zD (zp0 x)).1=K at S a0 d3;generalize(zD (zp0 x)).2=KA at S;clear h0;go_wp2_with fail
  refine S.out.mono ?_;rintro e w6 ⟨rfl,d8⟩;clear S r0 r1 r2 r3 r4 r5 r6 q0;have i:=hid (HD.out.step d8);have g2:=hid d8;clear d8 HD;by_cases hK:K=0
  ·subst hK;have HE:Hid (∀(w':World),(∀g,J.heap.size<=g->w'.heap[g]?=w6.heap[g]?\/w6.heap.size<=g)->Below w.heap.size w w'->zpH zs w (.returned (.tuple #[.agg #[.slice I l l,.slice H E E,.slice L t t,.slice M D D,.slice N B B,.slice F q q,.slice P r r],.agg #[.int .i64 0,.int .i64 0]])) w'):=fun w' hg a9=>by
    unfold zpH;rw[a0.out,if_neg (by decide)]
    refine⟨a9,_,((d1.out.keep (w2:=w6) fun g i0=>?_).keep hg).low g6.out,rfl⟩
    rcases Nat.lt_or_ge g w4.heap.size with h|h
    ·exact .inl ((g2.out.block g (zom h c9.out.size)).trans (c9.out.block g h))
    ·exact .inr h
   have c0:=i.out.s0 0 (by decide)
   have c1:=i.out.s0 1 (by decide)
   have c2:=i.out.s0 2 (by decide)
   have c3:=i.out.s0 3 (by decide)
   have c4:=i.out.s0 4 (by decide)
   have c5:=i.out.s0 5 (by decide)
   have c6:=i.out.s0 6 (by decide)
   have r0:=i.out.c6 0 _ rfl;have r1:=i.out.c6 1 _ rfl;have r2:=i.out.c6 2 _ rfl;have r3:=i.out.c6 3 _ rfl;have r4:=i.out.c6 4 _ rfl;have r5:=i.out.c6 5 _ rfl;have r6:=i.out.c6 6 _ rfl;have y0:=i.out.f0;have y1:=i.out.f1;have z:=i.out.zs;have zf:=i.out.zf;have q0:=i.out.c7;have a8:s≠f:=Nat.ne_of_lt i.out.o1;have f6:f<w6.heap.size:=zog _ _ y0;have f8:s<w6.heap.size:=zog _ _ c0;have f5:Hid (zpH zs w (.returned (.tuple #[.agg #[.slice I l l,.slice H E E,.slice L t t,.slice M D D,.slice N B B,.slice F q q,.slice P r r],.agg #[.int .i64 0,.int .i64 0]])) (((((((((w6.setCell ⟨s,0,none⟩ (.slice I l l)).setCell ⟨s,1,none⟩ (.slice H E E)).setCell ⟨s,2,none⟩ (.slice L t t)).setCell ⟨s,3,none⟩ (.slice M D D)).setCell ⟨s,4,none⟩ (.slice N B B)).setCell ⟨s,5,none⟩ (.slice F q q)).setCell ⟨s,6,none⟩ (.slice P r r)).setCell ⟨f,0,none⟩ (.int .i64 0)).setCell ⟨f,1,none⟩ (.int .i64 0))):=by
    have b:w.heap.size<=s:=i.out.lo;have G:w.heap.size<=f:=zoz b (Nat.le_of_lt i.out.o1);refine HE.out _ (fun g hg=>.inl ?_) ?_
    ·have g9:g≠s:=by have:=f4.out.2;omega
     have h1:g≠f:=by have:=f4.out.1;omega
     have st:∀(X:World) (k:Nat) (u:Value),(X.setCell ⟨s,k,none⟩ u).heap[g]?=X.heap[g]?:=fun X k u=>zop _ _ _ _ g9
     have sf:∀(X:World) (k:Nat) (u:Value),(X.setCell ⟨f,k,none⟩ u).heap[g]?=X.heap[g]?:=fun X k u=>zop _ _ _ _ h1
     rw[sf,sf,st,st,st,st,st,st,st]
    ·exact((((((((i.out.bel.setCell (p:=⟨s,0,none⟩) b _).setCell (p:=⟨s,1,none⟩) b _).setCell (p:=⟨s,2,none⟩) b _).setCell (p:=⟨s,3,none⟩) b _).setCell (p:=⟨s,4,none⟩) b _).setCell (p:=⟨s,5,none⟩) b _).setCell (p:=⟨s,6,none⟩) b _).setCell (p:=⟨f,0,none⟩) G _).setCell (p:=⟨f,1,none⟩) G _
   clear i HE d1 a0;dsimp only;go_upto_region 10 with fail
   go_wp2;exact bodyPost_ret (v:=.tuple #[.agg #[.slice I l l,.slice H E E,.slice L t t,.slice M D D,.slice N B B,.slice F q q,.slice P r r],.agg #[.int .i64 0,.int .i64 0]]) (by simp[results,Tryz.results9,go_sem, *]) rfl f5.out
  ·have h5:(K !=0)=true:=by simpa using hK
   have HE:Hid (∀w',Below w.heap.size w w'->zpH zs w (.returned (.tuple #[zpv,.agg #[.int .i64 5,.int .i64 (m:Int)]])) w'):=fun w' a9=>by
    unfold zpH;rw[a0.out,if_pos hK];exact⟨a9,5,_,by decide,d3.out hK,rfl⟩
   have j:=hid (i.out.put 5 (m:Int));obtain⟨w7,e7⟩:∃w7,w7=(w6.setCell ⟨b7,0,none⟩ (.int .i64 5)).setCell ⟨b7,1,none⟩ (.int .i64 (m:Int)):=⟨_,rfl⟩;rw[<-e7]at j;have f2:=hid e7;have q0:=i.out.c7;have q1:=i.out.d7;have zq:=i.out.z7;clear e7 a0 hK i d1;dsimp only;go_upto_region 8 with fail
   rw[<-f2.out];clear f2 q0 q1 zq;have c0:=j.out.s0 0 (by decide)
   have c1:=j.out.s0 1 (by decide)
   have c2:=j.out.s0 2 (by decide)
   have c3:=j.out.s0 3 (by decide)
   have c4:=j.out.s0 4 (by decide)
   have c5:=j.out.s0 5 (by decide)
   have c6:=j.out.s0 6 (by decide)
   have y0:=j.out.f0;have y1:=j.out.f1;have z:=j.out.zs;have zf:=j.out.zf;have q0:=j.out.c7;have q1:=j.out.d7;have f6:f<w7.heap.size:=zog _ _ y0;have f8:s<w7.heap.size:=zog _ _ c0;have a8:s≠f:=Nat.ne_of_lt j.out.o1;have g0:s≠b7:=by have:=j.out.o1;have:=j.out.o2;have:=j.out.o3;omega
   have g5:f≠b7:=by have:=j.out.o2;have:=j.out.o3;omega
   have b:w.heap.size<=s:=j.out.lo;have G:w.heap.size<=f:=zoz b (Nat.le_of_lt j.out.o1);have g1:=hid b;have b0:=hid G;have d0:=hid j.out.bel;have set7:Hid (∀x:World,Below w.heap.size w x->Below w.heap.size w (((((((x.setCell ⟨s,0,none⟩ (.slice none 0 0)).setCell ⟨s,1,none⟩ (.slice none 0 0)).setCell ⟨s,2,none⟩ (.slice none 0 0)).setCell ⟨s,3,none⟩ (.slice none 0 0)).setCell ⟨s,4,none⟩ (.slice none 0 0)).setCell ⟨s,5,none⟩ (.slice none 0 0)).setCell ⟨s,6,none⟩ (.slice none 0 0))):=fun x h=>((((((h.setCell (p:=⟨s,0,none⟩) b _).setCell (p:=⟨s,1,none⟩) b _).setCell (p:=⟨s,2,none⟩) b _).setCell (p:=⟨s,3,none⟩) b _).setCell (p:=⟨s,4,none⟩) b _).setCell (p:=⟨s,5,none⟩) b _).setCell (p:=⟨s,6,none⟩) b _
   clear j b G;go_wp2_with fail
   go_region
   all_goals
    go_wp2;exact bodyPost_ret (v:=.tuple #[zpv,.agg #[.int .i64 5,.int .i64 (m:Int)]]) (by simp[results,Tryz.results9,go_sem, *]) rfl (HE.out _ (((set7.out _ d0.out).setCell (p:=⟨f,0,none⟩) b0.out _).setCell (p:=⟨f,1,none⟩) b0.out _).drew)
theorem zr9(a:Option Addr)(n c:Nat)(zs:List Int)(w:World)(d:n<=10000000)(b:n<=c)(hz:Has .u8 w a n zs):Calls Tryz.prog 9 #[.slice a n c] w (zpH zs w):=by
 by_cases hb:(zo1 zs).1=0
 ·exact zrS a n c zs w b hz hb
 ·refine(zsm a n c zs w d b hz hb).mono fun e w' h=>?_
  unfold zpH zq3;rw[if_pos hb];refine⟨h.2,_,_,hb,?_,h.1⟩;unfold zps;rw[if_pos hb]
theorem ztb{α β :Type}{f: α->β}{S T:List α}(h:S.map f=T.map f){i:Nat}{x y: α}(a:S[i]?=some x)(b:T[i]?=some y):f x=f y:=by
 have:=congrArg (·[i]?) h;simp only[zoy,a,b,Option.map_some,zoo]at this;exact this
theorem zpC{α β :Type}{k:Nat}{P: α->World->Nat->Nat->Prop}{w:World}{s:QSl}{S:List α}{f: α->β}(h:QRow k P w s S){i:Nat}{x: α}(a:S[i]?=some x):(∃g o,P x w g o)/\f x∈S.map f:=by
 obtain⟨g,o,_,b⟩:=h.2 i x a;exact⟨⟨g,_,b⟩,zoJ.2 ⟨x,zol a,rfl⟩⟩
theorem zqw(c:Bool)(d i:PlanD)(w:World)(Q:d.lie w)(hy:i.lie w)(he:zr5 c d.p i.p)(hm:d.p.mid):
 Calls Tryz.prog 11 #[d.v,i.v,.bool c] w (Yes w):=by
 have n0:i.heads.n=d.heads.n:=by rw[<-Q.hs.1,<-hy.hs.1];have:=congrArg List.length he.hs;simpa[PlanD.p]using this.symm
 have n2:i.states.n=d.states.n:=by rw[<-Q.ss.1,<-hy.ss.1];have:=he.ss.1;simpa[PlanD.p]using this.symm
 have n3:i.acts.n=d.acts.n:=by rw[<-Q.al.1,<-hy.al.1];have:=he.al.1;simpa[PlanD.p]using this.symm
 have n4:i.tabs.n=d.tabs.n:=by rw[<-Q.ts.1,<-hy.ts.1];have:=congrArg List.length he.ts;simpa[PlanD.p]using this.symm
 have n5:i.nodes.n=d.nodes.n:=by rw[<-Q.ns.1,<-hy.ns.1];have:=he.ns.1;simpa[PlanD.p]using this.symm
 have n1:i.mta.n=d.mta.n:=by rw[<-Q.ms.1,<-hy.ms.1];exact(congrArg List.length he.ms).symm
 have n6:i.out.n=d.out.n:=by rw[<-Q.os.1,<-hy.os.1];exact(congrArg List.length he.os).symm
 have l0:d.heads.n<=10000:=by have:=hm.hs;simp[PlanD.p,Q.hs.1]at this;exact this
 have l1:d.mta.n<=10000:=by have:=hm.ms;simp[PlanD.p,Q.ms.1]at this;exact this
 have l2:d.states.n<=10000:=by have:=hm.ss;simp[PlanD.p,Q.ss.1]at this;exact this
 have l3:d.acts.n<=10000:=by have:=hm.al;simp[PlanD.p,Q.al.1]at this;exact this
 have l4:d.tabs.n<=10000:=by have:=hm.ts;simp[PlanD.p,Q.ts.1]at this;exact this
 have l5:d.nodes.n<=10000:=by have:=hm.ns;simp[PlanD.p,Q.ns.1]at this;exact this
 have l6:d.out.n<=10000:=by have:=hm.os;simp[PlanD.p,Q.os.1]at this;exact this
 obtain⟨l,hW⟩:∃l,l=(w.alloc d.box).alloc i.box:=⟨_,rfl⟩;obtain⟨b0,h0⟩:∃b0,b0=w.heap.size:=⟨_,rfl⟩;obtain⟨b1,h1⟩:∃b1,b1=w.heap.size+1:=⟨_,rfl⟩;have zc:l.cell? ⟨b0,0,none⟩=some (.slice d.heads.a d.heads.n d.heads.c)/\l.cell? ⟨b0,1,none⟩=some (.slice d.mta.a d.mta.n d.mta.c)/\l.cell? ⟨b0,2,none⟩=some (.slice d.states.a d.states.n d.states.c)/\l.cell? ⟨b0,3,none⟩=some (.slice d.acts.a d.acts.n d.acts.c)/\l.cell? ⟨b0,4,none⟩=some (.slice d.tabs.a d.tabs.n d.tabs.c)/\l.cell? ⟨b0,5,none⟩=some (.slice d.nodes.a d.nodes.n d.nodes.c)/\l.cell? ⟨b0,6,none⟩=some (.slice d.out.a d.out.n d.out.c):=by rw[hW,h0];refine⟨?_,?_,?_,?_,?_,?_,?_⟩<;>exact(zoe _ _ _ (by simp)).trans ((zod _ _ _ _ rfl).trans rfl)
 have yc:l.cell? ⟨b1,0,none⟩=some (.slice i.heads.a i.heads.n i.heads.c)/\l.cell? ⟨b1,1,none⟩=some (.slice i.mta.a i.mta.n i.mta.c)/\l.cell? ⟨b1,2,none⟩=some (.slice i.states.a i.states.n i.states.c)/\l.cell? ⟨b1,3,none⟩=some (.slice i.acts.a i.acts.n i.acts.c)/\l.cell? ⟨b1,4,none⟩=some (.slice i.tabs.a i.tabs.n i.tabs.c)/\l.cell? ⟨b1,5,none⟩=some (.slice i.nodes.a i.nodes.n i.nodes.c)/\l.cell? ⟨b1,6,none⟩=some (.slice i.out.a i.out.n i.out.c):=by rw[hW,h1];refine⟨?_,?_,?_,?_,?_,?_,?_⟩<;>exact(zod _ _ _ _ (by simp)).trans rfl
 have O:Hid (Below w.heap.size w l):=by rw[hW];exact ze (ze (zof _ _))
 have EW:=hid hW;have E0:=hid h0;have E1:=hid h1;have e6:Hid (∀w',Below l.heap.size l w'->Calls Tryz.prog 34 #[.slice d.mta.a d.mta.n d.mta.c,.slice i.mta.a d.mta.n i.mta.c] w' (Yes w')):=fun w' h=>zpR _ _ (by omega) (Q.ms.step (zh O.out h)) (by have:=hy.ms;rw[n1,show i.ms=d.ms from he.ms.symm]at this;exact this.step (zh O.out h))
 have e8:Hid (∀w',Below l.heap.size l w'->Calls Tryz.prog 34 #[.slice d.out.a d.out.n d.out.c,.slice i.out.a d.out.n i.out.c] w' (Yes w')):=fun w' h=>zpR _ _ (by omega) (Q.os.step (zh O.out h)) (by have:=hy.os;rw[n6,show i.os=d.os from he.os.symm]at this;exact this.step (zh O.out h))
 have G:∀(k:Nat) (u v:HeadD),d.hs[k]?=some u->i.hs[k]?=some v->∀w',Below l.heap.size l w'->Calls Tryz.prog 34 #[.slice u.w.a u.w.n u.w.c,.slice v.w.a v.w.n v.w.c] w' fun e W=>e=.returned (.bool true)/\Below w'.heap.size w' W:=fun k u v J K w' h=>by
  obtain⟨⟨g,o,P⟩,F⟩:=zpC (f:=HeadD.ws) Q.hs J;obtain⟨⟨g',o',m⟩,_⟩:=zpC (f:=HeadD.ws) hy.hs K;have e:u.ws=v.ws:=ztb he.hs J K;have hl:=hm.hw _ F;have T:=P.2.1;have X:=m.2.1;have e3:v.w.n=u.w.n:=by rw[<-T,<-X,e]
  have h2:=m.2;rw[e3,<-e]at h2;rw[e3];exact zpR _ _ (by omega) (P.2.step (zh O.out h)) (h2.step (zh O.out h))
 have C:∀(k:Nat) (u v:StateD),d.ss[k]?=some u->i.ss[k]?=some v->∀w',Below l.heap.size l w'->Calls Tryz.prog 35 #[.agg #[.int .i64 u.head,.int .i64 u.r.h,.int .i64 u.r.f,.slice u.cases.a u.cases.n u.cases.c,.int .i64 u.els],.agg #[.int .i64 v.head,.int .i64 v.r.h,.int .i64 v.r.f,.slice v.cases.a v.cases.n v.cases.c,.int .i64 v.els],.bool c] w' fun e W=>e=.returned (.bool true)/\Below w'.heap.size w' W:=fun k u v J K w' h=>by
  obtain⟨⟨g,o,P⟩,F⟩:=zpC (f:=StateD.p) Q.ss J;obtain⟨⟨g',o',m⟩,_⟩:=zpC (f:=StateD.p) hy.ss K;have hl:=hm.sc _ F;have T:=P.2.2.2.2.2.1;exact zri c u v w' (P.2.2.2.2.2.step CaseD.keeps (zh O.out h)) (m.2.2.2.2.2.step CaseD.keeps (zh O.out h)) (he.ss.at J K) (by have:u.cs.length<=10000:=hl;omega)
 have L:∀(k:Nat) (u v:TabD),d.ts[k]?=some u->i.ts[k]?=some v->∀w',Below l.heap.size l w'->Calls Tryz.prog 37 #[.agg #[.int .i64 u.kind,.slice u.keys.a u.keys.n u.keys.c,.slice u.acts.a u.acts.n u.acts.c,.int .i64 u.cap,.int .i64 u.dflt,.slice u.args.a u.args.n u.args.c],.agg #[.int .i64 v.kind,.slice v.keys.a v.keys.n v.keys.c,.slice v.acts.a v.acts.n v.acts.c,.int .i64 v.cap,.int .i64 v.dflt,.slice v.args.a v.args.n v.args.c]] w' fun e W=>e=.returned (.bool true)/\Below w'.heap.size w' W:=fun k u v J K w' h=>by
  obtain⟨⟨g,o,P⟩,F⟩:=zpC (f:=TabD.p) Q.ts J;obtain⟨⟨g',o',m⟩,_⟩:=zpC (f:=TabD.p) hy.ts K;have hl:=hm.tl _ F;have f3:u.ks.length<=10000:=hl.1;have d7:u.al.length<=10000:=hl.2.1;have h5:u.zs.length<=10000:=hl.2.2;have P:=P.2.2.2.2.2.2;have m:=m.2.2.2.2.2.2;have T:=P.1.1;have X:=P.2.1.1;have e3:=P.2.2.1;exact zrj u v w' (P.1.step RefD.keeps (zh O.out h)) (m.1.step RefD.keeps (zh O.out h)) (P.2.1.step (zh O.out h)) (m.2.1.step (zh O.out h)) (P.2.2.step (zh O.out h)) (m.2.2.step (zh O.out h)) (ztb he.ts J K) (by omega)
 have H:∀(k:Nat) (u v:NodeD),d.ns[k]?=some u->i.ns[k]?=some v->∀w',Below l.heap.size l w'->Calls Tryz.prog 38 #[.agg #[.int .i64 u.kind,.int .i64 u.n,.slice u.e.a u.e.n u.e.c,.int .i64 u.yes,.int .i64 u.no],.agg #[.int .i64 v.kind,.int .i64 v.n,.slice v.e.a v.e.n v.e.c,.int .i64 v.yes,.int .i64 v.no],.bool c] w' fun e W=>e=.returned (.bool true)/\Below w'.heap.size w' W:=fun k u v J K w' h=>by
  obtain⟨⟨g,o,P⟩,F⟩:=zpC (f:=NodeD.p) Q.ns J;obtain⟨⟨g',o',m⟩,_⟩:=zpC (f:=NodeD.p) hy.ns K;have hl:u.es.length<=10000:=hm.ne _ F;have T:=P.2.2.2.2.2.1;exact zrA c u v w' (P.2.2.2.2.2.step PushD.keeps (zh O.out h)) (m.2.2.2.2.2.step PushD.keeps (zh O.out h)) (he.ns.at J K) (by omega)
 have M:∀(k:Nat) (u v:ActD),d.al[k]?=some u->i.al[k]?=some v->(v.w.n=u.w.n/\v.ops.n=u.ops.n/\u.ops.n<=10000)/\(∀w',Below l.heap.size l w'->Calls Tryz.prog 34 #[.slice u.w.a u.w.n u.w.c,.slice v.w.a u.w.n v.w.c] w' (Yes w'))/\QRow 5 OpD.lie l u.ops u.os/\QRow 5 OpD.lie l v.ops v.os/\(∀(j:Nat) (x y:OpD),u.os[j]?=some x->v.os[j]?=some y->∀w',Below l.heap.size l w'->Calls Tryz.prog 36 #[.agg #[.int .i64 x.kind,.int .i64 x.r.h,.int .i64 x.r.f,.int .i64 x.head,.slice x.e.a x.e.n x.e.c],.agg #[.int .i64 y.kind,.int .i64 y.r.h,.int .i64 y.r.f,.int .i64 y.head,.slice y.e.a y.e.n y.e.c],.bool c] w' fun e W=>e=.returned (.bool true)/\Below w'.heap.size w' W):=fun k u v J K=>by
  obtain⟨⟨g,o,P⟩,F⟩:=zpC (f:=ActD.p) Q.al J;obtain⟨⟨g',o',m⟩,_⟩:=zpC (f:=ActD.p) hy.al K;have hl:=hm.aw _ F;have f3:u.ws.length<=10000:=hl.1;have d7:(u.os.map OpD.p).length<=10000:=hl.2;rw[zoE]at d7;obtain⟨q1,q2⟩:=he.al.at J K;have q1:u.ws=v.ws:=q1;have q3:(u.os.map OpD.p).length=(v.os.map OpD.p).length:=q2.1;rw[zoE,zoE]at q3;have T:=P.2.2.1.1;have X:=m.2.2.1.1;have e3:=P.2.2.2.1;have e4:=m.2.2.2.1;have m1:v.w.n=u.w.n:=by rw[<-T,<-X,q1]
  have h2:=m.2.2.1;rw[m1,<-q1]at h2;refine⟨⟨m1,by omega,by omega⟩,fun w' h=>zpR _ _ (by omega) (P.2.2.1.step (zh O.out h)) (h2.step (zh O.out h)),P.2.2.2.step OpD.keeps O.out,m.2.2.2.step OpD.keeps O.out,fun j x y hj e0 w' h=>?_⟩
  obtain⟨⟨g3,o3,hq⟩,c6⟩:=zpC (f:=OpD.p) P.2.2.2 hj;obtain⟨⟨g4,o4,f5⟩,_⟩:=zpC (f:=OpD.p) m.2.2.2 e0;have h6:x.es.length<=10000:=hm.ae _ F _ c6;have e5:=hq.2.2.2.2.2.1;exact zr7 c x y w' (hq.2.2.2.2.2.step PushD.keeps (zh O.out h)) (f5.2.2.2.2.2.step PushD.keeps (zh O.out h)) (EqL.at q2 hj e0) (by omega)
 have G:=hid G;have C:=hid C;have M:=hid M;have L:=hid L;have H:=hid H;have HX:=hid (Q.step O.out);have HY:=hid (hy.step O.out);have c0:Hid (i.heads.n=d.heads.n/\i.states.n=d.states.n/\i.acts.n=d.acts.n/\i.tabs.n=d.tabs.n/\i.nodes.n=d.nodes.n):=⟨n0,n2,n3,n4,n5⟩;rw[n0,n1,n2,n3,n4,n5,n6]at yc;unfold PlanD.box at EW;unfold PlanD.v;rw[n0,n1,n2,n3,n4,n5,n6]at EW ⊢;obtain⟨a0,ea⟩:∃a,d.heads.a=a:=⟨_,rfl⟩;rw[ea]at zc EW ⊢;have g5:=hid ea;clear ea;obtain⟨b0',eb⟩:∃a,i.heads.a=a:=⟨_,rfl⟩;rw[eb]at yc EW ⊢;have f7:=hid eb;clear eb;obtain⟨a2,ea⟩:∃a,d.states.a=a:=⟨_,rfl⟩;rw[ea]at zc EW ⊢;have f9:=hid ea;clear ea;obtain⟨b2',eb⟩:∃a,i.states.a=a:=⟨_,rfl⟩;rw[eb]at yc EW ⊢;have f4:=hid eb;clear eb;obtain⟨a3,ea⟩:∃a,d.acts.a=a:=⟨_,rfl⟩;rw[ea]at zc EW ⊢;have f6:=hid ea;clear ea;obtain⟨b3',eb⟩:∃a,i.acts.a=a:=⟨_,rfl⟩;rw[eb]at yc EW ⊢;have h3:=hid eb;clear eb;obtain⟨a4,ea⟩:∃a,d.tabs.a=a:=⟨_,rfl⟩;rw[ea]at zc EW ⊢;have g6:=hid ea;clear ea;obtain⟨b4',eb⟩:∃a,i.tabs.a=a:=⟨_,rfl⟩;rw[eb]at yc EW ⊢;have g9:=hid eb;clear eb;obtain⟨a5,ea⟩:∃a,d.nodes.a=a:=⟨_,rfl⟩;rw[ea]at zc EW ⊢;have f8:=hid ea;clear ea;obtain⟨b5',eb⟩:∃a,i.nodes.a=a:=⟨_,rfl⟩;rw[eb]at yc EW ⊢;have g8:=hid eb;clear eb;have ZC:=hid zc;have YC:=hid yc;obtain⟨z0,z1,z2,z3,z4,z5,z6⟩:=zc;obtain⟨y0,y1,y2,y3,y4,y5,y6⟩:=yc;clear Q hy he hm hW h0 h1 n0 n1 n2 n3 n4 n5 n6;have i0:((d.heads.n:Int) !=(d.heads.n:Int))=false:=by simp
 have i2:((d.states.n:Int) !=(d.states.n:Int))=false:=by simp
 have i3:((d.acts.n:Int) !=(d.acts.n:Int))=false:=by simp
 have i4:((d.tabs.n:Int) !=(d.tabs.n:Int))=false:=by simp
 have i5:((d.nodes.n:Int) !=(d.nodes.n:Int))=false:=by simp
 go_enter Tryz.func11,Tryz.ntmps11
 go_wp2_with fail
 rw[<-EW.out,<-E1.out,<-E0.out];clear EW E0 E1;refine(e6.out _ (zof _ _)).mono ?_;rintro e w1 ⟨rfl,E⟩;have d0:=hid E;have z0:=za z0 E;have y0:=za y0 E;have z1:=za z1 E;have y1:=za y1 E;have z2:=za z2 E;have y2:=za y2 E;have z3:=za z3 E;have y3:=za y3 E;have z4:=za z4 E;have y4:=za y4 E;have z5:=za z5 E;have y5:=za y5 E;have z6:=za z6 E;have y6:=za y6 E;clear E e6;go_wp2_with fail
 refine(e8.out _ d0.out).mono ?_;rintro e w2 ⟨rfl,S⟩;have h4:=hid (zh d0.out S);clear S e8 z0 z1 z2 z3 z4 z5 z6 y0 y1 y2 y3 y4 y5 y6 d0 i0 i2 i3 i4 i5;go_wp2;go_loopw [7] (fun q wr=>∃k:Nat,k<=d.heads.n/\q=.int .i64 k/\Hid (Below l.heap.size l wr)) (fun q _=>d.heads.n-(intOf q).toNat)
 case atStart=>exact⟨0,zon _,rfl,h4⟩
 case round=>
  obtain⟨k,hk,rfl,Z⟩:=hrel;have z0:=za ZC.out.1 Z.out;have y0:=za YC.out.1 Z.out;by_cases I:k<d.heads.n
  ·have V:(k:Int)<(d.heads.n:Int):=by omega
   obtain⟨g1,o1,u,T,J,a6⟩:=zu (HX.out.hs.step HeadD.keeps Z.out) I;obtain⟨g2,o2,v,X,K,a1⟩:=zu (HY.out.hs.step HeadD.keeps Z.out) (show k<i.heads.n by rw[c0.out.1];exact I)
   obtain rfl:a0=some ⟨g1,o1,none⟩:=by rw[<-g5.out];exact T
   obtain rfl:b0'=some ⟨g2,o2,none⟩:=by rw[<-f7.out];exact X
   have b:=hid (fun p:zq wr=>G k u v J K p.to (zh Z.out p.h))
   have u0:=Eq.mp (by rw[Nat.mul_one]) a6.1.1
   have v0:=Eq.mp (by rw[Nat.mul_one]) a1.1.1
   have a7:=zm u0;have a8:=zm v0;have z':=zm z0;have y':=zm y0;clear T X J K a6 a1;go_wp2_with fail
   haveI inhB:∀w:World,Inhabited (zq w):=fun w=>⟨⟨w,zof _ _⟩⟩
   refine zi (by kernel_rfl) (by kernel_rfl) ?_
   repeat (go_big_quiet_step (first|(go_at_call 34;exact zT _ (b.out _))))
   refine wpQuiet_nil ?_;intro wq R;obtain⟨⟨_,D⟩,B⟩:=R;subst B;have HE:=hid (zh Z.out D);clear D Z b z' y' a7 a8;go_wp2;go_roundw
   case rel=>exact⟨k+1,by omega,by go_num,HE⟩
   case measure=>simp[intOf];omega
  ·have V:¬(k:Int)<(d.heads.n:Int):=by omega
   go_wp2;go_loopw [8] (fun q wr=>∃k:Nat,k<=d.states.n/\q=.int .i64 k/\Hid (Below l.heap.size l wr)) (fun q _=>d.states.n-(intOf q).toNat)
   case atStart=>exact⟨0,zon _,rfl,Z⟩
   case round=>
    obtain⟨k,hk,rfl,S⟩:=hrel;have z2:=za ZC.out.2.2.1 S.out;have y2:=za YC.out.2.2.1 S.out;by_cases I:k<d.states.n
    ·have V:(k:Int)<(d.states.n:Int):=by omega
     obtain⟨g1,o1,u,T,J,a6⟩:=zu (HX.out.ss.step StateD.keeps S.out) I;obtain⟨g2,o2,v,X,K,a1⟩:=zu (HY.out.ss.step StateD.keeps S.out) (show k<i.states.n by rw[c0.out.2.1];exact I)
     obtain rfl:a2=some ⟨g1,o1,none⟩:=by rw[<-f9.out];exact T
     obtain rfl:b2'=some ⟨g2,o2,none⟩:=by rw[<-f4.out];exact X
     have b:=hid (fun p:zq wr=>C k u v J K p.to (zh S.out p.h))
     obtain⟨⟨u0,_⟩,⟨u1,_⟩,⟨u2,_⟩,⟨u3,_⟩,⟨u4,_⟩,_⟩:=a6;obtain⟨⟨v0,_⟩,⟨v1,_⟩,⟨v2,_⟩,⟨v3,_⟩,⟨v4,_⟩,_⟩:=a1;have a7:=zm u0;have a8:=zm v0;have b9:=zm u1;have b8:=zm v1;have b2:=zm u2;have b7:=zm v2;have b6:=zm u3;have b3:=zm v3;have b4:=zm u4;have b5:=zm v4;have z':=zm z2;have y':=zm y2;clear T X J K;go_wp2_with fail
     haveI inhB:∀w:World,Inhabited (zq w):=fun w=>⟨⟨w,zof _ _⟩⟩
     refine zi (by kernel_rfl) (by kernel_rfl) ?_
     repeat (go_big_quiet_step (first|(go_at_call 35;exact zT _ (b.out _))))
     refine wpQuiet_nil ?_;intro wq R;obtain⟨⟨_,D⟩,B⟩:=R;subst B;have HE:=hid (zh S.out D);clear D S b z' y' a7 a8 b9 b8 b2 b7 b6 b3 b4 b5;go_wp2;go_roundw
     case rel=>exact⟨k+1,by omega,by go_num,HE⟩
     case measure=>simp[intOf];omega
    ·have V:¬(k:Int)<(d.states.n:Int):=by omega
     go_wp2;go_loopw [9,10,11,12] (fun q _ _ _ wr=>∃k:Nat,k<=d.acts.n/\q=.int .i64 k/\Hid (Below l.heap.size l wr)) (fun q _ _ _ _=>d.acts.n-(intOf q).toNat)
     case atStart=>exact⟨0,zon _,rfl,S⟩
     case round=>
      obtain⟨k,hk,rfl,U⟩:=hrel;have z3:=za ZC.out.2.2.2.1 U.out;have y3:=za YC.out.2.2.2.1 U.out;by_cases I:k<d.acts.n
      ·have V:(k:Int)<(d.acts.n:Int):=by omega
       obtain⟨g1,o1,u,T,J,⟨u0,_⟩,⟨u1,_⟩,_⟩:=zu (HX.out.al.step ActD.keeps U.out) I;obtain⟨g2,o2,v,X,K,⟨v0,_⟩,⟨v1,_⟩,_⟩:=zu (HY.out.al.step ActD.keeps U.out) (show k<i.acts.n by rw[c0.out.2.2.1];exact I)
       obtain rfl:a3=some ⟨g1,o1,none⟩:=by rw[<-f6.out];exact T
       obtain rfl:b3'=some ⟨g2,o2,none⟩:=by rw[<-h3.out];exact X
       obtain⟨⟨m1,m2,m3⟩,f0,f1,d8,e9⟩:=M.out k u v J K;rw[m1]at v0;rw[m2]at v1;have M2:=hid m2;have c1:=hid f0;have e7:=hid f1;have d6:=hid d8;have d9:=hid e9;have i1:((u.ops.n:Int) !=(u.ops.n:Int))=false:=by simp
       obtain⟨ua,eua⟩:∃a,u.ops.a=a:=⟨_,rfl⟩;obtain⟨va,eva⟩:∃a,v.ops.a=a:=⟨_,rfl⟩;rw[eua]at u1;rw[eva]at v1;have d5:=hid eua;have f2:=hid eva;clear T X J K m1 m2 f0 f1 d8 e9 eua eva;go_wp2_with fail
       go_region_held3 (fun w'=>w'.cell? ⟨b0,3,none⟩=some (.slice (some ⟨g1,o1,none⟩) d.acts.n d.acts.c)/\w'.cell? ⟨b1,3,none⟩=some (.slice (some ⟨g2,o2,none⟩) d.acts.n i.acts.c)/\w'.cell? ⟨g1,o1+k*2,none⟩=some (.slice u.w.a u.w.n u.w.c)/\w'.cell? ⟨g1,o1+k*2+1,none⟩=some (.slice ua u.ops.n u.ops.c)/\w'.cell? ⟨g2,o2+k*2,none⟩=some (.slice v.w.a u.w.n v.w.c)/\w'.cell? ⟨g2,o2+k*2+1,none⟩=some (.slice va u.ops.n v.ops.c)) (go_keep) (fail)
       ·obtain⟨W4,hW4⟩:∃W4,W4=((wr.alloc (.cells #[.slice u.w.a u.w.n u.w.c,.slice ua u.ops.n u.ops.c] 56)).alloc (.cells #[.slice v.w.a u.w.n v.w.c,.slice va u.ops.n v.ops.c] 56)).drew:=⟨_,rfl⟩;obtain⟨p0,hp0⟩:∃p,p=wr.heap.size:=⟨_,rfl⟩;obtain⟨p1,hp1⟩:∃p,p=wr.heap.size+1:=⟨_,rfl⟩;have x0:W4.cell? ⟨p0,0,none⟩=some (.slice u.w.a u.w.n u.w.c):=by rw[hW4,hp0];exact(zoe _ _ _ (by simp)).trans ((zod _ _ _ _ rfl).trans rfl)
        have x1:W4.cell? ⟨p0,1,none⟩=some (.slice ua u.ops.n u.ops.c):=by rw[hW4,hp0];exact(zoe _ _ _ (by simp)).trans ((zod _ _ _ _ rfl).trans rfl)
        have y0:W4.cell? ⟨p1,0,none⟩=some (.slice v.w.a u.w.n v.w.c):=by rw[hW4,hp1];exact(zod _ _ _ _ (by simp)).trans rfl
        have y1:W4.cell? ⟨p1,1,none⟩=some (.slice va u.ops.n v.ops.c):=by rw[hW4,hp1];exact(zod _ _ _ _ (by simp)).trans rfl
        have B4:Hid (Below l.heap.size l W4):=by rw[hW4];exact(ze (ze U.out)).drew
        rw[<-hW4,<-hp1,<-hp0];clear hW4 hp0 hp1 u0 u1 v0 v1 z3 y3 U;go_wp2_with fail
        refine(c1.out _ B4.out).mono ?_;rintro e w5 ⟨rfl,A⟩;have x1:=za x1 A;have y1:=za y1 A;have B5:=hid (zh B4.out A);clear A B4 c1 x0 y0;go_wp2;go_loopw [12] (fun q wi=>∃j:Nat,j<=u.ops.n/\q=.int .i64 j/\Hid (Below w5.heap.size w5 wi)) (fun q _=>u.ops.n-(intOf q).toNat)
        case atStart=>exact⟨0,zon _,rfl,zof _ _⟩
        case round=>
         obtain⟨j,hj,rfl,N⟩:=hrel;have x1:=za x1 N.out;have y1:=za y1 N.out;have B6:=hid (zh B5.out N.out);by_cases a9:j<u.ops.n
         ·have c9:(j:Int)<(u.ops.n:Int):=by omega
          obtain⟨g3,o3,s,e3,hs,⟨s0,_⟩,⟨s1,_⟩,⟨s2,_⟩,⟨s3,_⟩,⟨s4,_⟩,_⟩:=zu (e7.out.step OpD.keeps B6.out) a9;obtain⟨g4,o4,t,e4,ht,⟨t0,_⟩,⟨t1,_⟩,⟨t2,_⟩,⟨t3,_⟩,⟨t4,_⟩,_⟩:=zu (d6.out.step OpD.keeps B6.out) (show j<v.ops.n by rw[M2.out];exact a9)
          obtain rfl:ua=some ⟨g3,o3,none⟩:=by rw[<-d5.out];exact e3
          obtain rfl:va=some ⟨g4,o4,none⟩:=by rw[<-f2.out];exact e4
          have b:=hid (fun p:zq wr=>d9.out j s t hs ht p.to (zh B6.out p.h))
          have x':=zm x1;have y':=zm y1;have c7:=zm s0;have d3:=zm s1;have d1:=zm s2;have c4:=zm s3;have c5:=zm s4;have c2:=zm t0;have c3:=zm t1;have d2:=zm t2;have d4:=zm t3;have c8:=zm t4;clear e3 e4 hs ht;go_wp2_with fail
          haveI inhB:∀w:World,Inhabited (zq w):=fun w=>⟨⟨w,zof _ _⟩⟩
          refine zi (by kernel_rfl) (by kernel_rfl) ?_
          repeat (go_big_quiet_step (first|(go_at_call 36;exact zT _ (b.out _))))
          refine wpQuiet_nil ?_;intro wq R;obtain⟨⟨_,D⟩,B⟩:=R;subst B;have HE:=hid (zh N.out D);clear D N B6 b x' y' c7 d3 d1 c4 c5 c2 c3 d2 d4 c8;go_wp2;go_roundw
          case rel=>exact⟨j+1,by omega,by go_num,HE⟩
          case measure=>simp[intOf];omega
         ·have c9:¬(j:Int)<(u.ops.n:Int):=by omega
          clear N;go_wp2;go_roundw
          case rel=>exact⟨k+1,by omega,by go_num,B6⟩
          case measure=>simp[intOf];omega
       ·obtain⟨W4,hW4⟩:∃W4,W4=((wr.alloc (.cells #[.slice v.w.a u.w.n v.w.c,.slice va u.ops.n v.ops.c] 56)).alloc (.cells #[.slice u.w.a u.w.n u.w.c,.slice ua u.ops.n u.ops.c] 56)).drew:=⟨_,rfl⟩;obtain⟨p0,hp0⟩:∃p,p=wr.heap.size:=⟨_,rfl⟩;obtain⟨p1,hp1⟩:∃p,p=wr.heap.size+1:=⟨_,rfl⟩;have x0:W4.cell? ⟨p1,0,none⟩=some (.slice u.w.a u.w.n u.w.c):=by rw[hW4,hp1];exact(zod _ _ _ _ (by simp)).trans rfl
        have x1:W4.cell? ⟨p1,1,none⟩=some (.slice ua u.ops.n u.ops.c):=by rw[hW4,hp1];exact(zod _ _ _ _ (by simp)).trans rfl
        have y0:W4.cell? ⟨p0,0,none⟩=some (.slice v.w.a u.w.n v.w.c):=by rw[hW4,hp0];exact(zoe _ _ _ (by simp)).trans ((zod _ _ _ _ rfl).trans rfl)
        have y1:W4.cell? ⟨p0,1,none⟩=some (.slice va u.ops.n v.ops.c):=by rw[hW4,hp0];exact(zoe _ _ _ (by simp)).trans ((zod _ _ _ _ rfl).trans rfl)
        have B4:Hid (Below l.heap.size l W4):=by rw[hW4];exact(ze (ze U.out)).drew
        rw[<-hW4,<-hp1,<-hp0];clear hW4 hp0 hp1 u0 u1 v0 v1 z3 y3 U;go_wp2_with fail
        refine(c1.out _ B4.out).mono ?_;rintro e w5 ⟨rfl,A⟩;have x1:=za x1 A;have y1:=za y1 A;have B5:=hid (zh B4.out A);clear A B4 c1 x0 y0;go_wp2;go_loopw [12] (fun q wi=>∃j:Nat,j<=u.ops.n/\q=.int .i64 j/\Hid (Below w5.heap.size w5 wi)) (fun q _=>u.ops.n-(intOf q).toNat)
        case atStart=>exact⟨0,zon _,rfl,zof _ _⟩
        case round=>
         obtain⟨j,hj,rfl,N⟩:=hrel;have x1:=za x1 N.out;have y1:=za y1 N.out;have B6:=hid (zh B5.out N.out);by_cases a9:j<u.ops.n
         ·have c9:(j:Int)<(u.ops.n:Int):=by omega
          obtain⟨g3,o3,s,e3,hs,⟨s0,_⟩,⟨s1,_⟩,⟨s2,_⟩,⟨s3,_⟩,⟨s4,_⟩,_⟩:=zu (e7.out.step OpD.keeps B6.out) a9;obtain⟨g4,o4,t,e4,ht,⟨t0,_⟩,⟨t1,_⟩,⟨t2,_⟩,⟨t3,_⟩,⟨t4,_⟩,_⟩:=zu (d6.out.step OpD.keeps B6.out) (show j<v.ops.n by rw[M2.out];exact a9)
          obtain rfl:ua=some ⟨g3,o3,none⟩:=by rw[<-d5.out];exact e3
          obtain rfl:va=some ⟨g4,o4,none⟩:=by rw[<-f2.out];exact e4
          have b:=hid (fun p:zq wr=>d9.out j s t hs ht p.to (zh B6.out p.h))
          have x':=zm x1;have y':=zm y1;have c7:=zm s0;have d3:=zm s1;have d1:=zm s2;have c4:=zm s3;have c5:=zm s4;have c2:=zm t0;have c3:=zm t1;have d2:=zm t2;have d4:=zm t3;have c8:=zm t4;clear e3 e4 hs ht;go_wp2_with fail
          haveI inhB:∀w:World,Inhabited (zq w):=fun w=>⟨⟨w,zof _ _⟩⟩
          refine zi (by kernel_rfl) (by kernel_rfl) ?_
          repeat (go_big_quiet_step (first|(go_at_call 36;exact zT _ (b.out _))))
          refine wpQuiet_nil ?_;intro wq R;obtain⟨⟨_,D⟩,B⟩:=R;subst B;have HE:=hid (zh N.out D);clear D N B6 b x' y' c7 d3 d1 c4 c5 c2 c3 d2 d4 c8;go_wp2;go_roundw
          case rel=>exact⟨j+1,by omega,by go_num,HE⟩
          case measure=>simp[intOf];omega
         ·have c9:¬(j:Int)<(u.ops.n:Int):=by omega
          clear N;go_wp2;go_roundw
          case rel=>exact⟨k+1,by omega,by go_num,B6⟩
          case measure=>simp[intOf];omega
      ·have V:¬(k:Int)<(d.acts.n:Int):=by omega
       go_wp2;go_loopw [13] (fun q wr=>∃k:Nat,k<=d.tabs.n/\q=.int .i64 k/\Hid (Below l.heap.size l wr)) (fun q _=>d.tabs.n-(intOf q).toNat)
       case atStart=>exact⟨0,zon _,rfl,U⟩
       case round=>
        obtain⟨k,hk,rfl,Y⟩:=hrel;have z4:=za ZC.out.2.2.2.2.1 Y.out;have y4:=za YC.out.2.2.2.2.1 Y.out;by_cases I:k<d.tabs.n
        ·have V:(k:Int)<(d.tabs.n:Int):=by omega
         obtain⟨g1,o1,u,T,J,a6⟩:=zu (HX.out.ts.step TabD.keeps Y.out) I;obtain⟨g2,o2,v,X,K,a1⟩:=zu (HY.out.ts.step TabD.keeps Y.out) (show k<i.tabs.n by rw[c0.out.2.2.2.1];exact I)
         obtain rfl:a4=some ⟨g1,o1,none⟩:=by rw[<-g6.out];exact T
         obtain rfl:b4'=some ⟨g2,o2,none⟩:=by rw[<-g9.out];exact X
         have b:=hid (fun p:zq wr=>L k u v J K p.to (zh Y.out p.h))
         obtain⟨⟨u0,_⟩,⟨u1,_⟩,⟨u2,_⟩,⟨u3,_⟩,⟨u4,_⟩,⟨u5,_⟩,_⟩:=a6;obtain⟨⟨v0,_⟩,⟨v1,_⟩,⟨v2,_⟩,⟨v3,_⟩,⟨v4,_⟩,⟨v5,_⟩,_⟩:=a1;have a7:=zm u0;have a8:=zm v0;have b9:=zm u1;have b8:=zm v1;have b2:=zm u2;have b7:=zm v2;have b6:=zm u3;have b3:=zm v3;have b4:=zm u4;have b5:=zm v4;have g7:=zm u5;have g0:=zm v5;have z':=zm z4;have y':=zm y4;clear T X J K;go_wp2_with fail
         haveI inhB:∀w:World,Inhabited (zq w):=fun w=>⟨⟨w,zof _ _⟩⟩
         refine zi (by kernel_rfl) (by kernel_rfl) ?_
         repeat (go_big_quiet_step (first|(go_at_call 37;exact zT _ (b.out _))))
         refine wpQuiet_nil ?_;intro wq R;obtain⟨⟨_,D⟩,B⟩:=R;subst B;have HE:=hid (zh Y.out D);clear D Y b z' y' a7 a8 b9 b8 b2 b7 b6 b3 b4 b5 g7 g0;go_wp2;go_roundw
         case rel=>exact⟨k+1,by omega,by go_num,HE⟩
         case measure=>simp[intOf];omega
        ·have V:¬(k:Int)<(d.tabs.n:Int):=by omega
         go_wp2;go_loopw [14] (fun q wr=>∃k:Nat,k<=d.nodes.n/\q=.int .i64 k/\Hid (Below l.heap.size l wr)) (fun q _=>d.nodes.n-(intOf q).toNat)
         case atStart=>exact⟨0,zon _,rfl,Y⟩
         case round=>
          obtain⟨k,hk,rfl,A⟩:=hrel;have z5:=za ZC.out.2.2.2.2.2.1 A.out;have y5:=za YC.out.2.2.2.2.2.1 A.out;by_cases I:k<d.nodes.n
          ·have V:(k:Int)<(d.nodes.n:Int):=by omega
           obtain⟨g1,o1,u,T,J,a6⟩:=zu (HX.out.ns.step NodeD.keeps A.out) I;obtain⟨g2,o2,v,X,K,a1⟩:=zu (HY.out.ns.step NodeD.keeps A.out) (show k<i.nodes.n by rw[c0.out.2.2.2.2];exact I)
           obtain rfl:a5=some ⟨g1,o1,none⟩:=by rw[<-f8.out];exact T
           obtain rfl:b5'=some ⟨g2,o2,none⟩:=by rw[<-g8.out];exact X
           have b:=hid (fun p:zq wr=>H k u v J K p.to (zh A.out p.h))
           obtain⟨⟨u0,_⟩,⟨u1,_⟩,⟨u2,_⟩,⟨u3,_⟩,⟨u4,_⟩,_⟩:=a6;obtain⟨⟨v0,_⟩,⟨v1,_⟩,⟨v2,_⟩,⟨v3,_⟩,⟨v4,_⟩,_⟩:=a1;have a7:=zm u0;have a8:=zm v0;have b9:=zm u1;have b8:=zm v1;have b2:=zm u2;have b7:=zm v2;have b6:=zm u3;have b3:=zm v3;have b4:=zm u4;have b5:=zm v4;have z':=zm z5;have y':=zm y5;clear T X J K;go_wp2_with fail
           haveI inhB:∀w:World,Inhabited (zq w):=fun w=>⟨⟨w,zof _ _⟩⟩
           refine zi (by kernel_rfl) (by kernel_rfl) ?_
           repeat (go_big_quiet_step (first|(go_at_call 38;exact zT _ (b.out _))))
           refine wpQuiet_nil ?_;intro wq R;obtain⟨⟨_,D⟩,B⟩:=R;subst B;have HE:=hid (zh A.out D);clear D A b z' y' a7 a8 b9 b8 b2 b7 b6 b3 b4 b5;go_wp2;go_roundw
           case rel=>exact⟨k+1,by omega,by go_num,HE⟩
           case measure=>simp[intOf];omega
          ·have V:¬(k:Int)<(d.nodes.n:Int):=by omega
           go_wp2;have HE:=hid (zh O.out A.out);go_ret;exact⟨rfl,HE.out⟩
theorem zrB(c:Bool)(d a:PlanD)(w:World)(g:d.lie w)(b:a.lie w)(e:zr5 c d.p a.p)(f:d.p.little):
 Calls Tryz.prog 11 #[d.v,a.v,.bool c] w (Yes w):=zqw c d a w g b e f.mid
theorem qn(n:Int):Mth.Byt (zk n):=yv _
theorem kk{a b:List Int}(ha:Mth.Byt a)(hb:Mth.Byt b):Mth.Byt (a++b):=fun x c=>(List.mem_append.1 c).elim (ha x) (hb x)
theorem zpu{α :Type}{f: α->List Int}{L:List α}(h:∀x,Mth.Byt (f x)):Mth.Byt (L.flatMap f):=fun y b=>by
 obtain⟨x,_,a⟩:=List.mem_flatMap.1 b;exact h x y a
theorem zrF:Mth.Byt []:=fun _ h=>absurd h zoA
theorem zqA(x:RefD):Mth.Byt (zoZ x):=kk (qn _) (qn _)
theorem ztF(x:PushD):Mth.Byt (zpi x):=by
 refine kk (qn _) ?_;split
 ·exact yv _
 ·split
  ·exact zqA _
  ·exact zrF
theorem zq5(es:List PushD):Mth.Byt (zpc es):=kk (qn _) (zpu ztF)
theorem zqh(ns:List Int):Mth.Byt (xr ns):=kk (qn _) (zpu qn)
theorem ztG(zs:List Int):Mth.Byt (zqa zs):=kk (qn _) (zpu fun _=>yv _)
theorem ztH(x:CaseD):Mth.Byt (zpe x):=kk (yv _) (kk (yv _) (qn _))
theorem zsR(x:StateD):Mth.Byt (kg x):=by
 refine kk (kk (qn _) (qn _)) (kk ?_ (kk (zpu ztH) (qn _)));split
 ·exact zrF
 ·exact zqA _
theorem zu0(x:OpD):Mth.Byt (opL x):=by
 unfold opL;refine kk (qn _) ?_;(repeat' split)<;>first|exact zrF|exact qn _|exact zq5 _|exact kk (zqA _) (zq5 _)|exact kk (zqA _) (qn _)
theorem zur(x:ActD):Mth.Byt (zpr x):=kk (zqh _) (kk (qn _) (zpu zu0))
theorem zus(x:TabD):Mth.Byt (zpB x):=kk (qn _) (kk (kk (qn _) (zpu zqA)) (kk (zqh _) (kk (kk (qn _) (qn _)) (ztG _))))
theorem ztI(x:NodeD):Mth.Byt (zpg x):=by
 unfold zpg;refine kk (kk (qn _) (qn _)) ?_;(repeat' split)<;>first|exact qn _|exact kk (zq5 _) (qn _)|exact kk (qn _) (qn _)
theorem ztJ(d:PlanD):Mth.Byt (zpK d):=
 kk (kk (qn _) (zpu fun x=>zqh x.ws)) (kk (zqh _) (kk (kk (qn _) (zpu zsR)) (kk (kk (qn _) (zpu zur)) (kk (kk (qn _) (zpu zus)) (kk (kk (qn _) (zpu ztI)) (zqh _))))))
theorem ztK(d:PlanD):Mth.Byt (zpo d):=kk (fun x a=>by simp only[zoD,zoA,or_false]at a;rcases a with rfl|rfl|rfl<;>decide) (ztJ d)
theorem zsA(d:PlanD):Mth.Byt (zpJ d):=kk (ztK d) (zr0 _)
end Go.Proofs.YtbmcgbmegcpgnaaGreat
