import Derived.Test.YtdajaaondlekfaaGreatG23
set_option maxHeartbeats 16000000
set_option maxRecDepth 20000
set_option linter.unusedSimpArgs false
namespace Go.Proofs.YtdajaaondlekfaaGreat
open Go.RowKit
def yQ(A:List Nat)(j v:Nat):List Nat:=A.set j (A.getD j 0&&& v)
def xR(p:PPlan)(s:Nat)(x:PNode)(A:List Nat):List Nat:=
 if x.kind=3\/x.kind=4 then yQ (yQ A x.yes.toNat (jd p s x)) x.no.toNat (noN s x)else yQ A x.yes.toNat (jd p s x)
theorem jW(p:PPlan)(st m:Nat):(xG p st m).length=p.ns.length+1:=by simp[xG]
theorem za1{p:PPlan}{st m j:Nat}(h:j<=p.ns.length):(xG p st m)[j]?=some (SN p st m j):=by
 unfold xG;rw[zoy,List.getElem?_range (by omega)]
 rfl
theorem zdW{A:List Nat}{j c:Nat}(h:A[j]?=some c):A.getD j 0=c:=by rw[zoi,h];rfl
theorem zcp{A:List Nat}{j v i c:Nat}(hi:A[i]?=some c):(yQ A j v)[i]?=some (if j=i then c&&& v else c):=by
 unfold yQ;rw[List.getElem?_set];by_cases e:j=i
 ·subst e;rw[if_pos rfl,if_pos (zok.1 hi).1,if_pos rfl,zdW hi]
 ·rw[if_neg e,if_neg e,hi]
theorem zet{p:PPlan}(q:(zD p).1=0){st m:Nat}(d:st<2^64)(r:m<p.ns.length)(hs:SN p st m m≠zF):xR p (SN p st m m) (p.ns.getD m PNode.z) (xG p st m)=xG p st (m+1):=by
 have i:=za3 q r;have c:=qR (p:=p) d m m;have l:=zgO q c i;have u:=zji (x:=p.ns.getD m PNode.z) c;refine List.ext_getElem? fun j=>?_
 by_cases o:j<=p.ns.length
 ·rw[za1 o];have h0:=za1 (st:=st) (m:=m) o;have k:SN p st (m+1) j=SN p st m j&&& qM p (SN p st m m) (p.ns.getD m PNode.z) j:=rfl;rw[k];have e:=qR (p:=p) d m j;generalize p.ns.getD m PNode.z=x at*;generalize SN p st m m=s at*;generalize SN p st m j=t at*;unfold xR qM;rw[if_neg hs];have f:(x.yes.toNat=j)↔(x.yes=(j:Int)):=by have:=i.yes;omega
  by_cases h2:x.kind=3\/x.kind=4
  ·have g:(x.no.toNat=j)↔(x.no=(j:Int)):=by have:=i.no h2;omega
   rw[if_pos h2,zcp (zcp h0)];congr 1
   by_cases b:x.yes=(j:Int)
   ·rw[if_pos (f.2 b),if_pos b];by_cases a:x.no=(j:Int)
    ·rw[if_pos (g.2 a),if_pos ⟨h2,a⟩,Nat.and_assoc]
    ·rw[if_neg (fun h=>a (g.1 h)),if_neg (fun h=>a h.2),zy l]
   ·rw[if_neg (fun h=>b (f.1 h)),if_neg b]
    by_cases a:x.no=(j:Int)
    ·rw[if_pos (g.2 a),if_pos ⟨h2,a⟩,zaY u]
    ·rw[if_neg (fun h=>a (g.1 h)),if_neg (fun h=>a h.2),zy kj,zy e]
  ·rw[if_neg h2,zcp h0];congr 1
   rw[if_neg (show¬((x.kind=3\/x.kind=4)/\x.no=(j:Int))from fun h=>h2 h.1)]
   by_cases b:x.yes=(j:Int)
   ·rw[if_pos (f.2 b),if_pos b,zy l]
   ·rw[if_neg (fun h=>b (f.1 h)),if_neg b,zy kj,zy e]
 ·have n:∀A:List Nat,A.length=p.ns.length+1->A[j]?=none:=fun A h=>List.getElem?_eq_none (by omega)
  rw[n _ (jW p st (m+1))];refine n _ ?_;unfold xR yQ;split<;>simp[jW]
theorem zeu{p:PPlan}{st m:Nat}(a:st<2^64)(hs:SN p st m m=zF):xG p st (m+1)=xG p st m:=by
 unfold xG;refine List.map_congr_left fun j _=>?_
 show SN p st m j&&& qM p (SN p st m m) (p.ns.getD m PNode.z) j=_;unfold qM;rw[if_pos hs,zy (qR a m j)]
def je(g:Nat)(ok:Bool)(A:List Nat)(w:World)(e:Ending)(w':World):Prop:=e=.returned (.bool ok)/\But g w w'/\(ok=true->AhU g A w')
theorem znk{w w':World}{b g:Nat}{v0 v1 v2 v3 v4 v5 v6 m n o a c d e:Value}(hb:b≠g)(h:w.cell? ⟨b,0,none⟩=some v0/\w.cell? ⟨b,1,none⟩=some v1/\w.cell? ⟨b,2,none⟩=some v2/\w.cell? ⟨b,3,none⟩=some v3/\w.cell? ⟨b,4,none⟩=some v4/\w.cell? ⟨b,5,none⟩=some v5/\w.cell? ⟨b,6,none⟩=some v6/\w.cell? ⟨b,7,none⟩=some m/\w.cell? ⟨b,8,none⟩=some n/\w.cell? ⟨b,9,none⟩=some o/\w.cell? ⟨b,10,none⟩=some a/\w.cell? ⟨b,11,none⟩=some c/\w.cell? ⟨b,12,none⟩=some d/\w.cell? ⟨b,13,none⟩=some e)(k:But g w w'):w'.cell? ⟨b,0,none⟩=some v0/\w'.cell? ⟨b,1,none⟩=some v1/\w'.cell? ⟨b,2,none⟩=some v2/\w'.cell? ⟨b,3,none⟩=some v3/\w'.cell? ⟨b,4,none⟩=some v4/\w'.cell? ⟨b,5,none⟩=some v5/\w'.cell? ⟨b,6,none⟩=some v6/\w'.cell? ⟨b,7,none⟩=some m/\w'.cell? ⟨b,8,none⟩=some n/\w'.cell? ⟨b,9,none⟩=some o/\w'.cell? ⟨b,10,none⟩=some a/\w'.cell? ⟨b,11,none⟩=some c/\w'.cell? ⟨b,12,none⟩=some d/\w'.cell? ⟨b,13,none⟩=some e:=by
 obtain⟨h0,x,h2,r,t,u,q,h7,s,y,l,f,j,i⟩:=h;exact⟨k.cell hb h0,k.cell hb x,k.cell hb h2,k.cell hb r,k.cell hb t,k.cell hb u,k.cell hb q,k.cell hb h7,k.cell hb s,k.cell hb y,k.cell hb l,k.cell hb f,k.cell hb j,k.cell hb i⟩
theorem znY{w w':World}{b a o g:Nat}{v0 v1 v2 v3 v4 v5 v6 y A B e d i f u0 u1 u2 u3 u4 u5:Value}(hb:b≠g)(c:a≠g)(h:w.cell? ⟨b,0,none⟩=some v0/\w.cell? ⟨b,1,none⟩=some v1/\w.cell? ⟨b,2,none⟩=some v2/\w.cell? ⟨b,3,none⟩=some v3/\w.cell? ⟨b,4,none⟩=some v4/\w.cell? ⟨b,5,none⟩=some v5/\w.cell? ⟨b,6,none⟩=some v6/\w.cell? ⟨b,7,none⟩=some y/\w.cell? ⟨b,8,none⟩=some A/\w.cell? ⟨b,9,none⟩=some B/\w.cell? ⟨b,10,none⟩=some e/\w.cell? ⟨b,11,none⟩=some d/\w.cell? ⟨b,12,none⟩=some i/\w.cell? ⟨b,13,none⟩=some f/\w.cell? ⟨a,o,none⟩=some u0/\w.cell? ⟨a,o+1,none⟩=some u1/\w.cell? ⟨a,o+2,none⟩=some u2/\w.cell? ⟨a,o+3,none⟩=some u3/\w.cell? ⟨a,o+4,none⟩=some u4/\w.cell? ⟨a,o+5,none⟩=some u5)(k:But g w w'):w'.cell? ⟨b,0,none⟩=some v0/\w'.cell? ⟨b,1,none⟩=some v1/\w'.cell? ⟨b,2,none⟩=some v2/\w'.cell? ⟨b,3,none⟩=some v3/\w'.cell? ⟨b,4,none⟩=some v4/\w'.cell? ⟨b,5,none⟩=some v5/\w'.cell? ⟨b,6,none⟩=some v6/\w'.cell? ⟨b,7,none⟩=some y/\w'.cell? ⟨b,8,none⟩=some A/\w'.cell? ⟨b,9,none⟩=some B/\w'.cell? ⟨b,10,none⟩=some e/\w'.cell? ⟨b,11,none⟩=some d/\w'.cell? ⟨b,12,none⟩=some i/\w'.cell? ⟨b,13,none⟩=some f/\w'.cell? ⟨a,o,none⟩=some u0/\w'.cell? ⟨a,o+1,none⟩=some u1/\w'.cell? ⟨a,o+2,none⟩=some u2/\w'.cell? ⟨a,o+3,none⟩=some u3/\w'.cell? ⟨a,o+4,none⟩=some u4/\w'.cell? ⟨a,o+5,none⟩=some u5:=by
 obtain⟨h0,G,h2,E,F,I,D,h7,H,C,x,u,r,s,q,m,t,n,j,l⟩:=h;exact⟨k.cell hb h0,k.cell hb G,k.cell hb h2,k.cell hb E,k.cell hb F,k.cell hb I,k.cell hb D,k.cell hb h7,k.cell hb H,k.cell hb C,k.cell hb x,k.cell hb u,k.cell hb r,k.cell hb s,k.cell c q,k.cell c m,k.cell c t,k.cell c n,k.cell c j,k.cell c l⟩
theorem za2(d:PlanD){g m:Nat}{A:List Nat}{w:World}(j:Int)(s:Nat)(ha:AhU g A w)(h:A.length=m)(c:∀a∈A,a<2^64)(f:0<=j/\j<(m:Int))(hs:s<2^64):
 Calls Tryz.prog 68 #[zb5 d g m,.int .i64 j,.int .u64 (s:Int)] w (zbT g (yQ A j.toNat s) w):=by
 have b:j.toNat<A.length:=by omega
 have e:A[j.toNat]?=some A[j.toNat]:=zoh b;have:=zbw d j.toNat s _ ha (m:=m) (by omega) e hs (c _ (List.getElem_mem b))
 rw[show((j.toNat:Nat):Int)=j by omega]at this
 unfold yQ;rw[zdW e];exact this
theorem zev{A:List Nat}(h:∀a∈A,a<2^64)(j v:Nat):∀a∈yQ A j v,a<2^64:=by
 intro a ha;unfold yQ at ha;rcases List.mem_or_eq_of_mem_set ha with b|b
 ·exact h a b
 ·rw[b,zoi];cases e:A[j]? with
  |none=>simp
  |some c=>exact jV (h c (zol e))
theorem zdh(A:List Nat)(j v:Nat):(yQ A j v).length=A.length:=by simp[yQ]
theorem zhw(d:PlanD)(x:NodeD)(s i:Nat){g m:Nat}{A:List Nat}{w0 w:World}(G:d.lie w0)(T:Below w0.heap.size w0 w)(Y:w0.heap.size<=g)(hc:(zD d.p).1=0)(ha:AhU g A w)(hm:m=d.p.ns.length+1)(hA:A.length=m)(y:∀a∈A,a<2^64)(hs:s<2^64)(Z:zaH d.p i x.p)(he:∀w',But g w w'->QRow 4 PushD.lie w' x.e x.es):
 Calls Tryz.prog 106 #[qS d g m x s] w (je g (yB d.p s x.p) (xR d.p s x.p A) w):=by
 have h6:(d.p.hs.length:Int)<=6:=(zB hc 0 (by decide)).2.1
 have hl:d.lie w:=G.step T;have P:∀w',But g w w'->d.lie w':=fun w' h=>G.step (T.trans (h.low.mono Y))
 obtain⟨B,hW⟩:∃B,B=w.alloc (.cells (zer d g m x s) 190):=⟨_,rfl⟩;obtain⟨b,hb⟩:∃b,b=w.heap.size:=⟨_,rfl⟩;have J:Below w.heap.size w B:=by rw[hW];exact ze (zof _ _)
 have V:VisF d g m x s b B:=by rw[hW,hb];exact zcn d g m x s w
 have K:b≠g:=by have:=ha.lt;omega
 have E:Hid (But g w B):=But.of J (Nat.le_of_lt ha.lt);have F:=hid (ha.step J);have D:=hid V;have EW:=hid hW;have EB:=hid hb;have o:0<=x.yes/\x.yes<(m:Int):=by have j:(i:Int)<x.yes/\x.yes<=(d.p.ns.length:Int):=Z.yes;omega
 have Q:(x.kind=3\/x.kind=4)->0<=x.no/\x.no<(m:Int):=fun e=>by have j:(i:Int)<x.no/\x.no<=(d.p.ns.length:Int):=Z.no e;omega
 have S:x.yes.toNat<A.length:=by omega
 have I:A[x.yes.toNat]?=some A[x.yes.toNat]:=zoh S;have U:=y _ (List.getElem_mem S);have N:=zdW I;generalize A[x.yes.toNat]=c at*;have O:x.yes=((x.yes.toNat:Nat):Int):=by omega
 have f:x.kind=1\/x.kind=2\/x.kind=3\/x.kind=4:=Z.kind;obtain⟨⟨z0,z1,z2,z3,z4,z5,z6,z7⟩,z8,z9,M,a3,a4,W⟩:=V.all;rcases f with f|f|f|f
 ·have e1:yB d.p s x.p=(yD s (jU d.p x.n).ks&&(jU d.p x.n).al.all (fun k=>zH s (zG d.p k))):=by unfold yB;rw[if_pos (show x.p.kind=1 from f)];rfl
  have e2:xR d.p s x.p A=A.set x.yes.toNat (c&&& yd d.p s (jU d.p x.n).al):=by
   unfold xR yQ jd;rw[if_neg (show¬(x.p.kind=3\/x.p.kind=4)by show¬(x.kind=3\/x.kind=4);omega),if_pos (show x.p.kind=1 from f)]
   show A.set x.yes.toNat (A.getD x.yes.toNat 0&&& _)=_;rw[N];rfl
  have hn:0<=x.n/\x.n<(d.p.ts.length:Int):=Z.tab f;have en:d.p.ts.length=d.tabs.n:=by simp[PlanD.p,hl.ts.1]
  obtain⟨tg,tz,t,et,b9,b8⟩:=zu hl.ts (i:=x.n.toNat) (by omega)
  have d3:tg≠g:=by
   obtain⟨d4,_,_,c8,_,c4⟩:=zu G.ts (i:=x.n.toNat) (by omega)
   have j:=zog _ _ c4.1.1;rw[et]at c8;simp only[zoo,Addr.mk.injEq]at c8;have h2:d4<w0.heap.size:=j;omega
  have b7:jU d.p x.n=t.p:=by
   unfold jU PlanD.p;simp only[zoi,zoy,b9,Option.map_some,zoC]
  have c9:zgL d.p t.p:=by have:=zfB hc (i:=x.n.toNat) (by omega);rwa[show d.p.ts.getD x.n.toNat PTab.z=t.p from b7]at this
  have C:Hid (∀w',Below B.heap.size B w'->Calls Tryz.prog 150 #[qS d g m x s,zmG t] w' (DoF g (yD s t.ks&&t.al.all (fun k=>zH s (zG d.p k))) (A.set x.yes.toNat (c&&& yd d.p s t.al)) w')):=fun w' h=>by
   have c6:But g w w':=E.out.trans (But.of h (Nat.le_of_lt F.out.lt));have a8:Below w.heap.size w w':=zh J h;refine zja d x t s x.yes.toNat c hc (ha.step a8) (fun w2 h2=>P w2 (c6.trans h2)) O (by omega) I U hs c9 ?_ ?_ ?_
   ·exact b8.2.2.2.2.2.2.1.step RefD.keeps a8
   ·exact b8.2.2.2.2.2.2.2.1.step a8
   ·intro w2 h2;obtain⟨_,_,t2,_,c0,d1⟩:=zu (P w2 (c6.trans h2)).ts (i:=x.n.toNat) (by omega)
    obtain rfl:t=t2:=by rw[b9]at c0;exact zoq c0
    exact d1.2.2.2.2.2.2.2.1
  rw[e1,e2,b7];obtain⟨⟨t0,_⟩,⟨t1,_⟩,⟨t2,_⟩,⟨t3,_⟩,⟨t4,_⟩,⟨t5,_⟩,_⟩:=b8;have u0:=za t0 J;have u1:=za t1 J;have u2:=za t2 J;have u3:=za t3 J;have u4:=za t4 J;have u5:=za t5 J;have d9:0<=x.n:=hn.1;have d8:x.n<(d.tabs.n:Int):=by omega
  have l:Below B.heap.size B B.drew:=(zof _ _).drew;have d6:Hid (But g B B.drew):=But.of l (Nat.le_of_lt F.out.lt);have b3:(x.kind==1)=true:=by rw[f];rfl
  rw[et]at z4;have u:=hid l;have b0:Hid (t.p.ks=t.ks/\t.p.al=t.al):=⟨rfl,rfl⟩;rw[b0.out.1,b0.out.2];unfold qS zmG at C;rw[et]at C;clear hl G T Y hc ha P hm hA y hs Z he h6 hW hb J V o Q S I U N O f e1 e2 hn en b9 b7 c9 et t0 t1 t2 t3 t4 t5 l D b0;generalize(yD s t.ks&&t.al.all (fun k=>zH s (zG d.p k)))=KB at*
  go_enter Tryz.func106,Tryz.ntmps106
  go_wp2_with fail
  rw[<-EW.out,<-EB.out];clear EW EB;go_region_held3 (fun w'=>w'.cell? ⟨b,0,none⟩=some (.slice d.heads.a d.heads.n d.heads.c)/\w'.cell? ⟨b,1,none⟩=some (.slice d.mta.a d.mta.n d.mta.c)/\w'.cell? ⟨b,2,none⟩=some (.slice d.states.a d.states.n d.states.c)/\w'.cell? ⟨b,3,none⟩=some (.slice d.acts.a d.acts.n d.acts.c)/\w'.cell? ⟨b,4,none⟩=some (.slice (some ⟨tg,tz,none⟩) d.tabs.n d.tabs.c)/\w'.cell? ⟨b,5,none⟩=some (.slice d.nodes.a d.nodes.n d.nodes.c)/\w'.cell? ⟨b,6,none⟩=some (.slice d.out.a d.out.n d.out.c)/\w'.cell? ⟨b,7,none⟩=some (.slice (some ⟨g,0,none⟩) m m)/\w'.cell? ⟨b,8,none⟩=some (.int .i64 x.kind)/\w'.cell? ⟨b,9,none⟩=some (.int .i64 x.n)/\w'.cell? ⟨b,10,none⟩=some (.slice x.e.a x.e.n x.e.c)/\w'.cell? ⟨b,11,none⟩=some (.int .i64 x.yes)/\w'.cell? ⟨b,12,none⟩=some (.int .i64 x.no)/\w'.cell? ⟨b,13,none⟩=some (.int .u64 (s:Int))/\w'.cell? ⟨tg,tz+x.n.toNat*6,none⟩=some (.int .i64 t.kind)/\w'.cell? ⟨tg,tz+x.n.toNat*6+1,none⟩=some (.slice t.keys.a t.keys.n t.keys.c)/\w'.cell? ⟨tg,tz+x.n.toNat*6+2,none⟩=some (.slice t.acts.a t.acts.n t.acts.c)/\w'.cell? ⟨tg,tz+x.n.toNat*6+3,none⟩=some (.int .i64 t.cap)/\w'.cell? ⟨tg,tz+x.n.toNat*6+4,none⟩=some (.int .i64 t.dflt)/\w'.cell? ⟨tg,tz+x.n.toNat*6+5,none⟩=some (.slice t.args.a t.args.n t.args.c))
   (first
    |(go_split_ands;with_reducible exact znY K d3 ⟨by assumption,by assumption,by assumption,by assumption,by assumption,by assumption,by assumption,by assumption,by assumption,by assumption,by assumption,by assumption,by assumption,by assumption,by assumption,by assumption,by assumption,by assumption,by assumption,by assumption⟩ j)
    |go_keep)
   (first|(go_at_call 150;refine(C.out _ u.out).mono ?_;rintro e L ⟨rfl,j,h2⟩))
  all_goals
   have HE:Hid (je g KB (A.set x.yes.toNat (c&&& yd d.p s t.al)) w (.returned (.bool KB)) L):=⟨rfl,E.out.trans (d6.out.trans j),h2⟩;clear C j h2 z0 z1 z2 z3 z4 z5 z6 z7 z8 z9 M a3 a4 W u0 u1 u2 u3 u4 u5;go_wp2;go_ret;exact HE.out
 ·have e1:yB d.p s x.p=zH s (zG d.p x.n):=by unfold yB;rw[if_neg (show¬x.p.kind=1 by show¬x.kind=1;omega),if_pos (show x.p.kind=2 from f)];rfl
  have e2:xR d.p s x.p A=A.set x.yes.toNat (c&&& yH s (zG d.p x.n)):=by
   unfold xR yQ jd;rw[if_neg (show¬(x.p.kind=3\/x.p.kind=4)by show¬(x.kind=3\/x.kind=4);omega),if_neg (show¬x.p.kind=1 by show¬x.kind=1;omega),if_pos (show x.p.kind=2 from f)]
   show A.set x.yes.toNat (A.getD x.yes.toNat 0&&& _)=_;rw[N];rfl
  have C:=hid (zgK d x s x.yes.toNat c x.n (hl.step J) hc (ha.step J) O (m:=m) (by omega) I U hs (Z.act f))
  rw[e1,e2];have b3:(x.kind==1)=false:=by rw[f];rfl
  have c5:(x.kind==2)=true:=by rw[f];rfl
  unfold qS at C;clear hl G T Y hc ha P hm hA y hs Z he h6 hW hb J V o Q S I U N O f e1 e2 D;generalize zH s (zG d.p x.n)=KB at*;go_enter Tryz.func106,Tryz.ntmps106
  go_wp2_with fail
  rw[<-EW.out,<-EB.out];clear EW EB;refine C.out.mono ?_;rintro e L ⟨rfl,j,h2⟩;have HE:Hid (je g KB (A.set x.yes.toNat (c&&& yH s (zG d.p x.n))) w (.returned (.bool KB)) L):=⟨rfl,E.out.trans j,h2⟩;clear C j h2 z0 z1 z2 z3 z4 z5 z6 z7 z8 z9 M a3 a4 W;go_wp2;go_ret;exact HE.out
 ·have e1:yB d.p s x.p=zL s x.es:=by unfold yB;rw[if_neg (show¬x.p.kind=1 by show¬x.kind=1;omega),if_neg (show¬x.p.kind=2 by show¬x.kind=2;omega),if_pos (show x.p.kind=3 from f)];rfl
  have e2:xR d.p s x.p A=yQ (yQ A x.yes.toNat s) x.no.toNat s:=by
   unfold xR jd noN;rw[if_pos (show x.p.kind=3\/x.p.kind=4 from .inl f),if_neg (show¬x.p.kind=1 by show¬x.kind=1;omega),if_neg (show¬x.p.kind=2 by show¬x.kind=2;omega),if_pos (show x.p.kind=3 from f),if_neg (show¬x.p.kind=4 by show¬x.kind=4;omega)]
   rfl
  have H:=hid (za2 d x.yes s F.out hA y o hs);have R:Hid (∀w',AhU g (yQ A x.yes.toNat s) w'->Calls Tryz.prog 68 #[zb5 d g m,.int .i64 x.no,.int .u64 (s:Int)] w' (zbT g (yQ (yQ A x.yes.toNat s) x.no.toNat s) w')):=fun w' h=>za2 d x.no s h (by rw[zdh];exact hA) (zev y _ _) (Q (.inl f)) hs
  have d0:Hid (∀w',But g w w'->Calls Tryz.prog 152 #[.int .u64 (s:Int),.slice x.e.a x.e.n x.e.c] w' fun q X=>q=.returned (.bool (zL s x.es))/\Below w'.heap.size w' X):=fun w' h=>by
   have ht:=qr (Z.tree f);exact zby s x.e x.es w' hs (he w' h) (fun r hr h2=>ja hc (ht.2 r hr h2)) (by have j:x.es.length<=8:=ht.1;have h2:=(he w' h).1;omega)
  rw[e1,e2];have b3:(x.kind==1)=false:=by rw[f];rfl
  have c5:(x.kind==2)=false:=by rw[f];rfl
  have d2:(x.kind==3)=true:=by rw[f];rfl
  unfold zb5 at H R;clear hl G T Y hc ha P hm hA y hs Z he h6 hW hb J V o Q S I U N O f e1 e2;generalize zL s x.es=KB at*;generalize yQ A x.yes.toNat s=A1 at*;generalize yQ A1 x.no.toNat s=A2 at*;go_enter Tryz.func106,Tryz.ntmps106
  go_wp2_with fail
  rw[<-EW.out,<-EB.out];clear EW EB;refine H.out.mono ?_;rintro e L ⟨rfl,j,h2⟩;obtain⟨⟨y0,y1,y2,y3,y4,y5,y6,y7⟩,y8,y9,b5,b2,a6,b4⟩:=(D.out.but h2 K).all;have a1:=hid (D.out.but h2 K);have a2:=hid (E.out.trans h2);have a0:=hid (R.out L j);clear H R j h2 z0 z1 z2 z3 z4 z5 z6 z7 z8 z9 M a3 a4 W D F E;go_wp2_with fail
  refine a0.out.mono ?_;rintro e w2 ⟨rfl,j,h2⟩;obtain⟨_,_,_,M,_,_,W⟩:=(a1.out.but h2 K).all;have a9:=hid (a2.out.trans h2);have a5:=hid (d0.out w2 a9.out);have b6:=hid j;clear a0 j h2 y0 y1 y2 y3 y4 y5 y6 y7 y8 y9 b5 b2 a6 b4 a1 a2 d0;go_wp2_with fail
  refine a5.out.mono ?_;rintro e w3 ⟨rfl,a7⟩;have HE:Hid (je g KB A2 w (.returned (.bool KB)) w3):=⟨rfl,a9.out.trans (But.of a7 (Nat.le_of_lt b6.out.lt)),fun _=>b6.out.step a7⟩
  clear a5 a7 M W a9 b6;go_wp2;go_ret;exact HE.out
 ·have e1:yB d.p s x.p=true:=by unfold yB;rw[if_neg (show¬x.p.kind=1 by show¬x.kind=1;omega),if_neg (show¬x.p.kind=2 by show¬x.kind=2;omega),if_neg (show¬x.p.kind=3 by show¬x.kind=3;omega)]
  have e2:xR d.p s x.p A=yQ (yQ A x.yes.toNat (s|||zv x.n)) x.no.toNat (s-(s&&& zv x.n)):=by
   unfold xR jd noN;rw[if_pos (show x.p.kind=3\/x.p.kind=4 from .inr f),if_neg (show¬x.p.kind=1 by show¬x.kind=1;omega),if_neg (show¬x.p.kind=2 by show¬x.kind=2;omega),if_neg (show¬x.p.kind=3 by show¬x.kind=3;omega),if_pos (show x.p.kind=4 from f)]
   rfl
  have hn:0<=x.n/\x.n<(d.p.hs.length:Int):=Z.hd f;have c2:Hid (∀w',Calls Tryz.prog 153 #[.int .u64 (s:Int),.int .i64 x.n] w' fun e X=>e=.returned (.int .u64 ((s|||zv x.n:Nat):Int))/\X=w'):=fun w'=>zdl s x.n hs hn.1 (by omega) w'
  have d5:Hid (∀w',Calls Tryz.prog 154 #[.int .u64 (s:Int),.int .i64 x.n] w' fun e X=>e=.returned (.int .u64 ((s-(s&&& zv x.n):Nat):Int))/\X=w'):=fun w'=>za5 s x.n hs hn.1 (by omega) w'
  have H:Hid (∀w',Below B.heap.size B w'->Calls Tryz.prog 68 #[zb5 d g m,.int .i64 x.yes,.int .u64 ((s|||zv x.n:Nat):Int)] w' (zbT g (yQ A x.yes.toNat (s|||zv x.n)) w')):=fun w' h=>za2 d x.yes (s|||zv x.n) (F.out.step h) hA y o (Nat.or_lt_two_pow hs (xW (by omega)))
  have R:Hid (∀w',AhU g (yQ A x.yes.toNat (s|||zv x.n)) w'->Calls Tryz.prog 68 #[zb5 d g m,.int .i64 x.no,.int .u64 ((s-(s&&& zv x.n):Nat):Int)] w' (zbT g (yQ (yQ A x.yes.toNat (s|||zv x.n)) x.no.toNat (s-(s&&& zv x.n))) w')):=fun w' h=>za2 d x.no _ h (by rw[zdh];exact hA) (zev y _ _) (Q (.inr f)) (zcj hs)
  rw[e1,e2];have b3:(x.kind==1)=false:=by rw[f];rfl
  have c5:(x.kind==2)=false:=by rw[f];rfl
  have d2:(x.kind==3)=false:=by rw[f];rfl
  have d7:(x.kind==4)=true:=by rw[f];rfl
  have c1:Hid (g<=B.heap.size):=Nat.le_of_lt F.out.lt;unfold zb5 at H R;clear hl G T Y hc ha P hm hA y hs Z he h6 hW hb J V o Q S I U N O f e1 e2 hn;generalize s|||zv x.n=s1 at*
  generalize s-(s&&& zv x.n)=s2 at*;generalize yQ A x.yes.toNat s1=A1 at*;generalize yQ A1 x.no.toNat s2=A2 at*;have l:Below B.heap.size B B.drew:=(zof _ _).drew;have u:=hid l;clear l;go_enter Tryz.func106,Tryz.ntmps106
  go_wp2_with fail
  rw[<-EW.out,<-EB.out];clear EW EB;go_region_held3 (fun w'=>w'.cell? ⟨b,0,none⟩=some (.slice d.heads.a d.heads.n d.heads.c)/\w'.cell? ⟨b,1,none⟩=some (.slice d.mta.a d.mta.n d.mta.c)/\w'.cell? ⟨b,2,none⟩=some (.slice d.states.a d.states.n d.states.c)/\w'.cell? ⟨b,3,none⟩=some (.slice d.acts.a d.acts.n d.acts.c)/\w'.cell? ⟨b,4,none⟩=some (.slice d.tabs.a d.tabs.n d.tabs.c)/\w'.cell? ⟨b,5,none⟩=some (.slice d.nodes.a d.nodes.n d.nodes.c)/\w'.cell? ⟨b,6,none⟩=some (.slice d.out.a d.out.n d.out.c)/\w'.cell? ⟨b,7,none⟩=some (.slice (some ⟨g,0,none⟩) m m)/\w'.cell? ⟨b,8,none⟩=some (.int .i64 x.kind)/\w'.cell? ⟨b,9,none⟩=some (.int .i64 x.n)/\w'.cell? ⟨b,10,none⟩=some (.slice x.e.a x.e.n x.e.c)/\w'.cell? ⟨b,11,none⟩=some (.int .i64 x.yes)/\w'.cell? ⟨b,12,none⟩=some (.int .i64 x.no)/\w'.cell? ⟨b,13,none⟩=some (.int .u64 (s:Int)))
   (first
    |(go_split_ands;with_reducible exact znk K ⟨by assumption,by assumption,by assumption,by assumption,by assumption,by assumption,by assumption,by assumption,by assumption,by assumption,by assumption,by assumption,by assumption,by assumption⟩ h2)
    |go_keep)
   (first
    |(go_at_call 153;refine(c2.out _).mono ?_;rintro e L ⟨rfl,rfl⟩)
    |(go_at_call 68;refine(H.out _ u.out).mono ?_;rintro e L ⟨rfl,j,h2⟩))
  have a1:Hid (VisF d g m x s b L):=D.out.but ((But.of u.out c1.out).trans h2) K;have a2:=hid (E.out.trans ((But.of u.out c1.out).trans h2));have c3:=hid j;rename_i hHeld
  clear hHeld H u j h2 z0 z1 z2 z3 z4 z5 z6 z7 z8 z9 M a3 a4 W D F E c2;obtain⟨⟨y0,y1,y2,y3,y4,y5,y6,y7⟩,y8,y9,b5,b2,a6,b4⟩:=a1.out.all;have l:Below L.heap.size L L.drew:=(zof _ _).drew;have u:Hid (But g L L.drew):=But.of l (Nat.le_of_lt c3.out.lt);have a0:=hid (R.out L.drew (c3.out.step l));clear l;go_wp2_with fail
  go_region_held3 (fun w'=>w'.cell? ⟨b,0,none⟩=some (.slice d.heads.a d.heads.n d.heads.c)/\w'.cell? ⟨b,1,none⟩=some (.slice d.mta.a d.mta.n d.mta.c)/\w'.cell? ⟨b,2,none⟩=some (.slice d.states.a d.states.n d.states.c)/\w'.cell? ⟨b,3,none⟩=some (.slice d.acts.a d.acts.n d.acts.c)/\w'.cell? ⟨b,4,none⟩=some (.slice d.tabs.a d.tabs.n d.tabs.c)/\w'.cell? ⟨b,5,none⟩=some (.slice d.nodes.a d.nodes.n d.nodes.c)/\w'.cell? ⟨b,6,none⟩=some (.slice d.out.a d.out.n d.out.c)/\w'.cell? ⟨b,7,none⟩=some (.slice (some ⟨g,0,none⟩) m m)/\w'.cell? ⟨b,8,none⟩=some (.int .i64 x.kind)/\w'.cell? ⟨b,9,none⟩=some (.int .i64 x.n)/\w'.cell? ⟨b,10,none⟩=some (.slice x.e.a x.e.n x.e.c)/\w'.cell? ⟨b,11,none⟩=some (.int .i64 x.yes)/\w'.cell? ⟨b,12,none⟩=some (.int .i64 x.no)/\w'.cell? ⟨b,13,none⟩=some (.int .u64 (s:Int)))
   (first
    |(go_split_ands;with_reducible exact znk K ⟨by assumption,by assumption,by assumption,by assumption,by assumption,by assumption,by assumption,by assumption,by assumption,by assumption,by assumption,by assumption,by assumption,by assumption⟩ h2)
    |go_keep)
   (first
    |(go_at_call 154;refine(d5.out _).mono ?_;rintro e w2 ⟨rfl,rfl⟩)
    |(go_at_call 68;refine a0.out.mono ?_;rintro e w2 ⟨rfl,j,h2⟩))
  have HE:Hid (je g true A2 w (.returned (.bool true)) w2):=⟨rfl,a2.out.trans (u.out.trans h2),fun _=>j⟩
  rename_i hHeld
  clear hHeld j h2 y0 y1 y2 y3 y4 y5 y6 y7 y8 y9 b5 b2 a6 b4 a1 a2 a0 u;go_wp2;go_ret;exact HE.out
end Go.Proofs.YtdajaaondlekfaaGreat
