import Derived.Test.YtdajaaondlekfaaGreatG16
set_option maxHeartbeats 32000000
set_option maxRecDepth 20000
set_option linter.unusedSimpArgs false
namespace Go.Proofs.YtdajaaondlekfaaGreat
open Go.RowKit
theorem zlP(k:Int):kr k<=3:=by unfold kr;split<;>omega
theorem zlQ(lo hi x:Int):InC lo hi [x]=false↔¬(lo<=x/\x<=hi):=by simp[InC]
theorem zbo{lo hi:Int}{L:List Int}{k:Nat}{x:Int}(h:L[k]?=some x):InC lo hi (L.drop k)=(decide (lo<=x/\x<=hi)&&InC lo hi (L.drop (k+1))):=by
 obtain⟨a,e⟩:=zok.1 h;rw[zoM a,e];rfl
theorem zeZ(t:PTab)(a:List Int)(al:List PAct):zJ t a al=if¬(1<=t.kind/\t.kind<=3)then 5 else if¬(1<=(a.length:Int)/\(a.length:Int)<=kr t.kind)\/¬(1<=(t.al.length:Int)/\(t.al.length:Int)<=4)then 2 else if¬(0<=t.cap/\t.cap<=16)then 1 else if InC 1 48 a=false then 6 else if InC 0 ((al.length:Int)-1) t.al=false then 1 else xM al t.al t.dflt t.zs:=by
 have b:isK t.kind=false↔¬(1<=t.kind/\t.kind<=3):=by unfold isK;rw[decide_eq_false_iff_not];omega
 unfold zJ;simp only[b,zlQ]
theorem zkp(t:TabD)(wq:QSl)(o:List Int)(A:QSl)(al:List ActD)(w:World)(hw:Has .i64 w wq.a wq.n o)(ht:Has .i64 w t.acts.a t.acts.n t.al)(hz:Has .u64 w t.args.a t.args.n t.zs)(ha:QRow 2 ActD.lie w A al)(Y:∀x∈al,∀y∈x.ws,1<=y/\y<=64)(a1:∀x∈al,x.w.n<=100000)(a2:t.acts.n<=100000):
 Calls Tryz.prog 62 #[t.v',.slice wq.a wq.n wq.c,.slice A.a A.n A.c] w fun e w'=>e=.returned (.int .i64 (zJ t.p o (al.map ActD.p)))/\Below w.heap.size w w':=by
 have d:Hid (zJ t.p o (al.map ActD.p)=if¬(1<=t.kind/\t.kind<=3)then 5 else if¬(1<=(wq.n:Int)/\(wq.n:Int)<=kr t.kind)\/¬(1<=(t.acts.n:Int)/\(t.acts.n:Int)<=4)then 2 else if¬(0<=t.cap/\t.cap<=16)then 1 else if InC 1 48 o=false then 6 else if InC 0 ((A.n:Int)-1) t.al=false then 1 else xM (al.map ActD.p) t.al t.dflt t.zs):=by
  show zJ t.p o (al.map ActD.p)=_;rw[zeZ,hw.1,zoE,ha.1,show t.p.al.length=t.acts.n from ht.1]
  rfl
 have r:Hid (InC 0 ((A.n:Int)-1) t.al=true->∀w',Below w.heap.size w w'->Calls Tryz.prog 101 #[t.v',.slice A.a A.n A.c,.agg #[.int .i64 t.dflt,.slice t.args.a t.args.n t.args.c]] w' fun e a5=>e=.returned (.int .i64 (xM (al.map ActD.p) t.al t.dflt t.zs))/\Below w'.heap.size w' a5):=fun b1 w' h=>
  zij t A al t.dflt t.args.a t.args.n t.args.c t.zs w' (ht.step h) a2 (ha.step ActD.keeps h) (fun i hi=>by
   have:=List.all_eq_true.1 b1 i hi;have:=of_decide_eq_true this;omega) Y a1 (hz.step h)
 have HW:=hid hw;have HT:=hid ht;have a0:=hid hw.1;have a3:=hid ht.1;obtain⟨wa,ewa⟩:∃wa,wq.a=wa:=⟨_,rfl⟩;rw[ewa];have a4:=hid ewa;clear hw ht hz ha Y a1 a2 ewa;by_cases kA:t.kind<1
 ·have a9:=zoY kA;have l:Hid (zJ t.p o (al.map ActD.p)=5):=by show _=_;rw[d.out];exact if_pos (by omega)
  clear r;go_enter Tryz.func62,Tryz.ntmps62
  go_wp2;go_ret;exact⟨by rw[l.out];rfl,ze (zof _ _)⟩
 have a9:=zoX kA;by_cases kB:3<t.kind
 ·have b2:=zoY kB;have l:Hid (zJ t.p o (al.map ActD.p)=5):=by show _=_;rw[d.out];exact if_pos (by omega)
  clear r;go_enter Tryz.func62,Tryz.ntmps62
  go_wp2;go_ret;exact⟨by rw[l.out];rfl,ze (zof _ _)⟩
 have b2:=zoX kB;have G:Hid (¬¬(1<=t.kind/\t.kind<=3)):=by show¬¬(1<=t.kind/\t.kind<=3);omega
 by_cases nA:(wq.n:Int)<1
 ·have a7:=zoY nA;have l:Hid (zJ t.p o (al.map ActD.p)=2):=by show _=_;rw[d.out];rw[if_neg G.out];exact if_pos (.inl (by omega))
  clear r;go_enter Tryz.func62,Tryz.ntmps62
  go_wp2;go_ret;exact⟨by rw[l.out];rfl,ze (zof _ _)⟩
 have a7:=zoX nA;by_cases nB:(3:Int)<(wq.n:Int)
 ·have a6:=zoY nB;have l:Hid (zJ t.p o (al.map ActD.p)=2):=by show _=_;rw[d.out];rw[if_neg G.out];exact if_pos (.inl (by have:=zlP t.kind;omega))
  clear r;go_enter Tryz.func62,Tryz.ntmps62
  go_wp2;go_ret;exact⟨by rw[l.out];rfl,ze (zof _ _)⟩
 have a6:=zoX nB;by_cases V:t.kind=2
 ·have e2:(t.kind==2)=true:=by simpa using V
  have MK:Hid (kr t.kind=1):=if_pos V;clear V;by_cases nC:(1:Int)<(wq.n:Int)
  ·have a8:=zoY nC;have l:Hid (zJ t.p o (al.map ActD.p)=2):=by show _=_;rw[d.out];rw[if_neg G.out];exact if_pos (.inl (by rw[MK.out];omega))
   clear r;go_enter Tryz.func62,Tryz.ntmps62
   go_wp2;go_ret;exact⟨by rw[l.out];rfl,ze (zof _ _)⟩
  have a8:=zoX nC;by_cases X:(t.acts.n:Int)<1
  ·have N:=zoY X;have l:Hid (zJ t.p o (al.map ActD.p)=2):=by show _=_;rw[d.out];rw[if_neg G.out];exact if_pos (.inr (by omega))
   clear r;go_enter Tryz.func62,Tryz.ntmps62
   go_wp2;go_ret;exact⟨by rw[l.out];rfl,ze (zof _ _)⟩
  have N:=zoX X;by_cases W:(4:Int)<(t.acts.n:Int)
  ·have M:=zoY W;have l:Hid (zJ t.p o (al.map ActD.p)=2):=by show _=_;rw[d.out];rw[if_neg G.out];exact if_pos (.inr (by omega))
   clear r;go_enter Tryz.func62,Tryz.ntmps62
   go_wp2;go_ret;exact⟨by rw[l.out];rfl,ze (zof _ _)⟩
  have M:=zoX W;have K:Hid (¬(¬(1<=(wq.n:Int)/\(wq.n:Int)<=kr t.kind)\/¬(1<=(t.acts.n:Int)/\(t.acts.n:Int)<=4))):=by show¬(¬(1<=(wq.n:Int)/\(wq.n:Int)<=kr t.kind)\/¬(1<=(t.acts.n:Int)/\(t.acts.n:Int)<=4));rw[MK.out];omega
  by_cases cA:t.cap<0
  ·have S:=zoY cA;have l:Hid (zJ t.p o (al.map ActD.p)=1):=by show _=_;rw[d.out];rw[if_neg G.out,if_neg K.out];exact if_pos (by omega)
   clear r;go_enter Tryz.func62,Tryz.ntmps62
   go_wp2;go_ret;exact⟨by rw[l.out];rfl,ze (zof _ _)⟩
  have S:=zoX cA;by_cases cB:16<t.cap
  ·have O:=zoY cB;have l:Hid (zJ t.p o (al.map ActD.p)=1):=by show _=_;rw[d.out];rw[if_neg G.out,if_neg K.out];exact if_pos (by omega)
   clear r;go_enter Tryz.func62,Tryz.ntmps62
   go_wp2;go_ret;exact⟨by rw[l.out];rfl,ze (zof _ _)⟩
  have O:=zoX cB;rw[if_neg G.out,if_neg K.out,if_neg (by omega)]at d
  clear G K;have P:Hid (Below w.heap.size w (w.alloc t.box')):=ze (zof _ _);obtain⟨s,hW⟩:∃s,s=w.alloc t.box':=⟨_,rfl⟩;obtain⟨b0,h0⟩:∃b0,b0=w.heap.size:=⟨_,rfl⟩;have z:∀i,s.cell? ⟨b0,i,none⟩=(#[.int .i64 t.kind,.slice t.keys.a t.keys.n t.keys.c,.slice t.acts.a t.acts.n t.acts.c,.int .i64 t.cap,.int .i64 t.dflt,.slice t.args.a t.args.n t.args.c]:Array Value)[i]?:=fun i=>by rw[hW,h0];exact zod _ _ _ _ rfl
  have z0:s.cell? ⟨b0,0,none⟩=some (.int .i64 t.kind):=z 0;have z1:s.cell? ⟨b0,1,none⟩=some (.slice t.keys.a t.keys.n t.keys.c):=z 1;have z2:s.cell? ⟨b0,2,none⟩=some (.slice t.acts.a t.acts.n t.acts.c):=z 2;have z3:s.cell? ⟨b0,3,none⟩=some (.int .i64 t.cap):=z 3;have z4:s.cell? ⟨b0,4,none⟩=some (.int .i64 t.dflt):=z 4;have z5:s.cell? ⟨b0,5,none⟩=some (.slice t.args.a t.args.n t.args.c):=z 5;have D:Hid (Below w.heap.size w s):=by rw[hW];exact ze (zof _ _)
  have EW:=hid hW;have E0:=hid h0;clear hW h0 z P;go_enter Tryz.func62,Tryz.ntmps62
  go_wp2;rw[<-EW.out,<-E0.out];clear EW E0;go_loopw [7] (fun q wr=>∃k:Nat,k<=wq.n/\q=.int .i64 k/\Hid (InC 1 48 o=InC 1 48 (o.drop k))/\Hid (s=wr)) (fun q _=>wq.n-(intOf q).toNat)
  case atStart=>exact⟨0,zon _,rfl,rfl,rfl⟩
  case round=>
   obtain⟨k,hk,rfl,b,B⟩:=hrel;obtain rfl:=B.out;clear B;by_cases L:k<wq.n
   ·obtain⟨g,off,u,R,I,r0⟩:=xQ (HW.out.step D.out) L;obtain rfl:wa=some ⟨g,off,none⟩:=by rw[<-a4.out];exact R
    have U:(k:Int)<(wq.n:Int):=by omega
    have f:=zbo (lo:=1) (hi:=48) I;clear R I;by_cases C:u<1
    ·have f1:=zoY C;have l:Hid (zJ t.p o (al.map ActD.p)=6):=by show _=_;rw[d.out];exact if_pos (by rw[b.out,f,zoX (by omega)];rfl)
     clear f b C;go_wp2;go_ret;exact⟨by rw[l.out];rfl,D.out⟩
    have f1:=zoX C;by_cases E:48<u
    ·have f2:=zoY E;have l:Hid (zJ t.p o (al.map ActD.p)=6):=by show _=_;rw[d.out];exact if_pos (by rw[b.out,f,zoX (by omega)];rfl)
     clear f b C E;go_wp2;go_ret;exact⟨by rw[l.out];rfl,D.out⟩
    ·have f2:=zoX E;have l:Hid (InC 1 48 o=InC 1 48 (o.drop (k+1))):=by show _=_;rw[b.out,f,zoY (by omega)];rfl
     clear f b C E;go_wp2;go_roundw
     case rel=>exact⟨k+1,by omega,by go_num,l,trivial⟩
     case measure=>simp[intOf];omega
   ·have ek:k=wq.n:=by omega
    have U:¬(k:Int)<(wq.n:Int):=by omega
    have m:InC 1 48 o=true:=by rw[b.out,ek,<-a0.out,zoP];rfl
    have F:Hid (zJ t.p o (al.map ActD.p)=if InC 0 ((A.n:Int)-1) t.al=false then 1 else xM (al.map ActD.p) t.al t.dflt t.zs):=by show _=_;rw[d.out,if_neg (by rw[m];decide)]
    clear b ek m d;go_wp2;go_loopw [8] (fun q wr=>∃j:Nat,j<=t.acts.n/\q=.int .i64 j/\Hid (InC 0 ((A.n:Int)-1) t.al=InC 0 ((A.n:Int)-1) (t.al.drop j))/\Hid (s=wr)) (fun q _=>t.acts.n-(intOf q).toNat)
    case atStart=>exact⟨0,zon _,rfl,rfl,rfl⟩
    case round=>
     obtain⟨j,hj,rfl,b,B⟩:=hrel;obtain rfl:=B.out;clear B;by_cases T:j<t.acts.n
     ·obtain⟨g,off,u,R,I,r0⟩:=xQ (HT.out.step D.out) T;have Q:(j:Int)<(t.acts.n:Int):=by omega
      have f:=zbo (lo:=0) (hi:=(A.n:Int)-1) I;clear I;by_cases C:u<0
      ·have f1:=zoY C;have l:Hid (zJ t.p o (al.map ActD.p)=1):=by show _=_;rw[F.out];exact if_pos (by rw[b.out,f,zoX (by omega)];rfl)
       clear f b C;go_wp2;go_ret;exact⟨by rw[l.out];rfl,D.out⟩
      have f1:=zoX C;by_cases E:(A.n:Int)<=u
      ·have f2:=zoY E;have l:Hid (zJ t.p o (al.map ActD.p)=1):=by show _=_;rw[F.out];exact if_pos (by rw[b.out,f,zoX (by omega)];rfl)
       clear f b C E;go_wp2;go_ret;exact⟨by rw[l.out];rfl,D.out⟩
      ·have f2:=zoX E;have l:Hid (InC 0 ((A.n:Int)-1) t.al=InC 0 ((A.n:Int)-1) (t.al.drop (j+1))):=by show _=_;rw[b.out,f,zoY (by omega)];rfl
       clear f b C E;go_wp2;go_roundw
       case rel=>exact⟨j+1,by omega,by go_num,l,trivial⟩
       case measure=>simp[intOf];omega
     ·have Z:j=t.acts.n:=by omega
      have Q:¬(j:Int)<(t.acts.n:Int):=by omega
      have m:InC 0 ((A.n:Int)-1) t.al=true:=by rw[b.out,Z,<-a3.out,zoP];rfl
      have l:Hid (zJ t.p o (al.map ActD.p)=xM (al.map ActD.p) t.al t.dflt t.zs):=by show _=_;rw[F.out,if_neg (by rw[m];decide)]
      have J:=hid (r.out m s D.out);clear b Z m r F;go_wp2_with fail
      refine J.out.mono ?_;rintro e w2 ⟨rfl,H⟩;have HE:=hid (zh D.out H);clear J H D;go_wp2;go_ret;exact⟨by rw[l.out];rfl,HE.out⟩
 ·have e2:(t.kind==2)=false:=by simpa using V
  have MK:Hid (kr t.kind=3):=if_neg V;clear V;by_cases X:(t.acts.n:Int)<1
  ·have N:=zoY X;have l:Hid (zJ t.p o (al.map ActD.p)=2):=by show _=_;rw[d.out];rw[if_neg G.out];exact if_pos (.inr (by omega))
   clear r;go_enter Tryz.func62,Tryz.ntmps62
   go_wp2;go_ret;exact⟨by rw[l.out];rfl,ze (zof _ _)⟩
  have N:=zoX X;by_cases W:(4:Int)<(t.acts.n:Int)
  ·have M:=zoY W;have l:Hid (zJ t.p o (al.map ActD.p)=2):=by show _=_;rw[d.out];rw[if_neg G.out];exact if_pos (.inr (by omega))
   clear r;go_enter Tryz.func62,Tryz.ntmps62
   go_wp2;go_ret;exact⟨by rw[l.out];rfl,ze (zof _ _)⟩
  have M:=zoX W;have K:Hid (¬(¬(1<=(wq.n:Int)/\(wq.n:Int)<=kr t.kind)\/¬(1<=(t.acts.n:Int)/\(t.acts.n:Int)<=4))):=by show¬(¬(1<=(wq.n:Int)/\(wq.n:Int)<=kr t.kind)\/¬(1<=(t.acts.n:Int)/\(t.acts.n:Int)<=4));rw[MK.out];omega
  by_cases cA:t.cap<0
  ·have S:=zoY cA;have l:Hid (zJ t.p o (al.map ActD.p)=1):=by show _=_;rw[d.out];rw[if_neg G.out,if_neg K.out];exact if_pos (by omega)
   clear r;go_enter Tryz.func62,Tryz.ntmps62
   go_wp2;go_ret;exact⟨by rw[l.out];rfl,ze (zof _ _)⟩
  have S:=zoX cA;by_cases cB:16<t.cap
  ·have O:=zoY cB;have l:Hid (zJ t.p o (al.map ActD.p)=1):=by show _=_;rw[d.out];rw[if_neg G.out,if_neg K.out];exact if_pos (by omega)
   clear r;go_enter Tryz.func62,Tryz.ntmps62
   go_wp2;go_ret;exact⟨by rw[l.out];rfl,ze (zof _ _)⟩
  have O:=zoX cB;rw[if_neg G.out,if_neg K.out,if_neg (by omega)]at d
  clear G K;have P:Hid (Below w.heap.size w (w.alloc t.box')):=ze (zof _ _);obtain⟨s,hW⟩:∃s,s=w.alloc t.box':=⟨_,rfl⟩;obtain⟨b0,h0⟩:∃b0,b0=w.heap.size:=⟨_,rfl⟩;have z:∀i,s.cell? ⟨b0,i,none⟩=(#[.int .i64 t.kind,.slice t.keys.a t.keys.n t.keys.c,.slice t.acts.a t.acts.n t.acts.c,.int .i64 t.cap,.int .i64 t.dflt,.slice t.args.a t.args.n t.args.c]:Array Value)[i]?:=fun i=>by rw[hW,h0];exact zod _ _ _ _ rfl
  have z0:s.cell? ⟨b0,0,none⟩=some (.int .i64 t.kind):=z 0;have z1:s.cell? ⟨b0,1,none⟩=some (.slice t.keys.a t.keys.n t.keys.c):=z 1;have z2:s.cell? ⟨b0,2,none⟩=some (.slice t.acts.a t.acts.n t.acts.c):=z 2;have z3:s.cell? ⟨b0,3,none⟩=some (.int .i64 t.cap):=z 3;have z4:s.cell? ⟨b0,4,none⟩=some (.int .i64 t.dflt):=z 4;have z5:s.cell? ⟨b0,5,none⟩=some (.slice t.args.a t.args.n t.args.c):=z 5;have D:Hid (Below w.heap.size w s):=by rw[hW];exact ze (zof _ _)
  have EW:=hid hW;have E0:=hid h0;clear hW h0 z P;go_enter Tryz.func62,Tryz.ntmps62
  go_wp2;rw[<-EW.out,<-E0.out];clear EW E0;go_loopw [7] (fun q wr=>∃k:Nat,k<=wq.n/\q=.int .i64 k/\Hid (InC 1 48 o=InC 1 48 (o.drop k))/\Hid (s=wr)) (fun q _=>wq.n-(intOf q).toNat)
  case atStart=>exact⟨0,zon _,rfl,rfl,rfl⟩
  case round=>
   obtain⟨k,hk,rfl,b,B⟩:=hrel;obtain rfl:=B.out;clear B;by_cases L:k<wq.n
   ·obtain⟨g,off,u,R,I,r0⟩:=xQ (HW.out.step D.out) L;obtain rfl:wa=some ⟨g,off,none⟩:=by rw[<-a4.out];exact R
    have U:(k:Int)<(wq.n:Int):=by omega
    have f:=zbo (lo:=1) (hi:=48) I;clear R I;by_cases C:u<1
    ·have f1:=zoY C;have l:Hid (zJ t.p o (al.map ActD.p)=6):=by show _=_;rw[d.out];exact if_pos (by rw[b.out,f,zoX (by omega)];rfl)
     clear f b C;go_wp2;go_ret;exact⟨by rw[l.out];rfl,D.out⟩
    have f1:=zoX C;by_cases E:48<u
    ·have f2:=zoY E;have l:Hid (zJ t.p o (al.map ActD.p)=6):=by show _=_;rw[d.out];exact if_pos (by rw[b.out,f,zoX (by omega)];rfl)
     clear f b C E;go_wp2;go_ret;exact⟨by rw[l.out];rfl,D.out⟩
    ·have f2:=zoX E;have l:Hid (InC 1 48 o=InC 1 48 (o.drop (k+1))):=by show _=_;rw[b.out,f,zoY (by omega)];rfl
     clear f b C E;go_wp2;go_roundw
     case rel=>exact⟨k+1,by omega,by go_num,l,trivial⟩
     case measure=>simp[intOf];omega
   ·have ek:k=wq.n:=by omega
    have U:¬(k:Int)<(wq.n:Int):=by omega
    have m:InC 1 48 o=true:=by rw[b.out,ek,<-a0.out,zoP];rfl
    have F:Hid (zJ t.p o (al.map ActD.p)=if InC 0 ((A.n:Int)-1) t.al=false then 1 else xM (al.map ActD.p) t.al t.dflt t.zs):=by show _=_;rw[d.out,if_neg (by rw[m];decide)]
    clear b ek m d;go_wp2;go_loopw [8] (fun q wr=>∃j:Nat,j<=t.acts.n/\q=.int .i64 j/\Hid (InC 0 ((A.n:Int)-1) t.al=InC 0 ((A.n:Int)-1) (t.al.drop j))/\Hid (s=wr)) (fun q _=>t.acts.n-(intOf q).toNat)
    case atStart=>exact⟨0,zon _,rfl,rfl,rfl⟩
    case round=>
     obtain⟨j,hj,rfl,b,B⟩:=hrel;obtain rfl:=B.out;clear B;by_cases T:j<t.acts.n
     ·obtain⟨g,off,u,R,I,r0⟩:=xQ (HT.out.step D.out) T;have Q:(j:Int)<(t.acts.n:Int):=by omega
      have f:=zbo (lo:=0) (hi:=(A.n:Int)-1) I;clear I;by_cases C:u<0
      ·have f1:=zoY C;have l:Hid (zJ t.p o (al.map ActD.p)=1):=by show _=_;rw[F.out];exact if_pos (by rw[b.out,f,zoX (by omega)];rfl)
       clear f b C;go_wp2;go_ret;exact⟨by rw[l.out];rfl,D.out⟩
      have f1:=zoX C;by_cases E:(A.n:Int)<=u
      ·have f2:=zoY E;have l:Hid (zJ t.p o (al.map ActD.p)=1):=by show _=_;rw[F.out];exact if_pos (by rw[b.out,f,zoX (by omega)];rfl)
       clear f b C E;go_wp2;go_ret;exact⟨by rw[l.out];rfl,D.out⟩
      ·have f2:=zoX E;have l:Hid (InC 0 ((A.n:Int)-1) t.al=InC 0 ((A.n:Int)-1) (t.al.drop (j+1))):=by show _=_;rw[b.out,f,zoY (by omega)];rfl
       clear f b C E;go_wp2;go_roundw
       case rel=>exact⟨j+1,by omega,by go_num,l,trivial⟩
       case measure=>simp[intOf];omega
     ·have Z:j=t.acts.n:=by omega
      have Q:¬(j:Int)<(t.acts.n:Int):=by omega
      have m:InC 0 ((A.n:Int)-1) t.al=true:=by rw[b.out,Z,<-a3.out,zoP];rfl
      have l:Hid (zJ t.p o (al.map ActD.p)=xM (al.map ActD.p) t.al t.dflt t.zs):=by show _=_;rw[F.out,if_neg (by rw[m];decide)]
      have J:=hid (r.out m s D.out);clear b Z m r F;go_wp2_with fail
      refine J.out.mono ?_;rintro e w2 ⟨rfl,H⟩;have HE:=hid (zh D.out H);clear J H D;go_wp2;go_ret;exact⟨by rw[l.out];rfl,HE.out⟩
end Go.Proofs.YtdajaaondlekfaaGreat
