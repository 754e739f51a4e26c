import Derived.Test.YtdajaaondlekfaaGreatG4
import Derived.Test.YtdajaaondlekfaaGreatG1
import Derived.Test.YtdajaaondlekfaaGreatG2
import Derived.Test.YtdajaaondlekfaaGreatVQWidth2
import Derived.Deep.RegionHeld3
import Derived.Test.YtdajaaondlekfaaGreatG0
import Derived.Deep.RegionLaw
import Derived.Test.YtdajaaondlekfaaGreatVBase
import Derived.Laws.ShiftsVarLaws
import Derived.Laws.BitsAllLaws
set_option maxHeartbeats 4000000
set_option maxRecDepth 20000
set_option linter.unusedSimpArgs false
namespace Go.Proofs.YtdajaaondlekfaaGreat
open Go.RowKit
def mask(F:Nat->Prop)(D:∀i,Decidable (F i))(w:World):World:={w with heap:=w.heap.mapIdx fun i o=>@ite _ (F i) (D i) (Obj.cells #[] 0) o}
theorem yb(F:Nat->Prop)(w:World):(mask F (fun _=>Classical.propDecidable _) w).heap.size=w.heap.size:=by simp[mask]
open Classical in
theorem zg4(F:Nat->Prop)(w:World)(k:Nat):(mask F (fun _=>Classical.propDecidable _) w).heap[k]?=w.heap[k]?.map fun o=>if F k then Obj.cells #[] 0 else o:=by
 simp[mask,Array.getElem?_mapIdx]
theorem yA{F:Nat->Prop}{w:World}{k:Nat}(h:¬F k):(mask F (fun _=>Classical.propDecidable _) w).heap[k]?=w.heap[k]?:=by
 rw[zg4];simp[h]
theorem kZ{F:Nat->Prop}{w:World}{k:Nat}(h:F k)(a:k<w.heap.size):(mask F (fun _=>Classical.propDecidable _) w).heap[k]?=some (Obj.cells #[] 0):=by
 rw[zg4,zoT a];simp[h]
def Cov(w w':World):Prop:=w.heap.size<=w'.heap.size/\∀g o v,w.cell? ⟨g,o,none⟩=some v->w'.cell? ⟨g,o,none⟩=some v
theorem zeS(F:Nat->Prop)(w:World):Cov (mask F (fun _=>Classical.propDecidable _) w) w:=by
 refine⟨Nat.le_of_eq (yb F w),fun g o v h=>?_⟩
 by_cases hF:F g
 ·have a:g<w.heap.size:=by have:=zog _ _ h;rwa[yb]at this
  simp only[World.cell?,kZ hF a]at h;simp at h
 ·simp only[World.cell?,yA hF]at h;exact h
theorem zh9{F:Nat->Prop}{w:World}{g o:Nat}{v:Value}(h:w.cell? ⟨g,o,none⟩=some v)(hF:¬F g):(mask F (fun _=>Classical.propDecidable _) w).cell? ⟨g,o,none⟩=some v:=by
 simp only[World.cell?,yA hF];exact h
theorem yT{F F':Nat->Prop}{w w':World}(f:w'.os=w.os)(h2:w'.tape=w.tape)(c:w'.output=w.output)(hs:w.heap.size<=w'.heap.size)(hF:∀k,F k->F' k)(b:∀k,k<w.heap.size->¬F k->¬F' k/\w'.heap[k]?=w.heap[k]?):Below (mask F (fun _=>Classical.propDecidable _) w).heap.size (mask F (fun _=>Classical.propDecidable _) w) (mask F' (fun _=>Classical.propDecidable _) w'):=by
 refine⟨f,h2,c,by rw[yb,yb];exact hs,fun k a=>?_⟩
 rw[yb]at a;by_cases h:F k
 ·rw[kZ h a,kZ (hF k h) (zom a hs)]
 ·obtain⟨d,e⟩:=b k a h;rw[yA h,yA d,e]
theorem qe{F:Nat->Prop}{w w':World}(hb:Below w.heap.size w w'):Below (mask F (fun _=>Classical.propDecidable _) w).heap.size (mask F (fun _=>Classical.propDecidable _) w) (mask F (fun _=>Classical.propDecidable _) w'):=
 yT hb.os hb.tape hb.output hb.size (fun _ h=>h) fun k a h=>⟨h,hb.block k a⟩
theorem CI.cov{w w':World}{g o:Nat}{n:Int}(h:CI w g o n)(c:Cov w w'):CI w' g o n:=⟨c.2 _ _ _ h.1,h.2⟩
theorem CU.cov{w w':World}{g o:Nat}{n:Int}(h:CU w g o n)(c:Cov w w'):CU w' g o n:=⟨c.2 _ _ _ h.1,h.2⟩
theorem CS.cov{w w':World}{g o:Nat}{s:QSl}(h:CS w g o s)(c:Cov w w'):CS w' g o s:=⟨c.2 _ _ _ h.1,h.2⟩
theorem Has.cov{k:IntKind}{w w':World}{a:Option Addr}{len:Nat}{zs:List Int}(h:Has k w a len zs)(c:Cov w w'):Has k w' a len zs:=by
 refine⟨h.1,h.2.1,?_⟩;rcases h.2.2 with h|⟨b,off,rfl,d,e⟩
 ·exact .inl h
 ·exact .inr ⟨b,off,rfl,zom d c.1,fun i hi=>c.2 _ _ _ (e i hi)⟩
def zcN{α :Type}(P: α->World->Nat->Nat->Prop):Prop:=∀{d: α} {w w':World} {g o:Nat},P d w g o->Cov w w'->P d w' g o
theorem QRow.cov{α :Type}{k:Nat}{P: α->World->Nat->Nat->Prop}{w w':World}{s:QSl}{S:List α}(h:QRow k P w s S)(a:zcN P)(c:Cov w w'):QRow k P w' s S:=
 ⟨h.1,fun i d hd=>by obtain⟨g,off,e,b⟩:=h.2 i d hd;exact⟨g,off,e,a b c⟩⟩
theorem RefD.covs:zcN RefD.lie:=fun h c=>⟨h.1.cov c,h.2.cov c⟩
theorem PushD.covs:zcN PushD.lie:=fun h c=>⟨h.1.cov c,h.2.1.cov c,h.2.2.1.cov c,h.2.2.2.cov c⟩
theorem CaseD.covs:zcN CaseD.lie:=fun h c=>⟨h.1.cov c,h.2.1.cov c,h.2.2.cov c⟩
theorem OpD.covs:zcN OpD.lie:=fun h c=>⟨h.1.cov c,h.2.1.cov c,h.2.2.1.cov c,h.2.2.2.1.cov c,h.2.2.2.2.1.cov c,h.2.2.2.2.2.cov PushD.covs c⟩
theorem zis{d:PlanD}{w:World}(b:d.lie w){e:Option Addr}{an:Nat}{zs:List Int}(c:Has .i64 w e an zs)(h:Int):∀n∈zE d h zs,(Lit.int .i64 n).wf=true:=by
 intro n a;unfold zE at a;split at a
 ·exact b.ms.2.1 n a
 split at a
 ·exact c.2.1 n a
 split at a
 ·simp only[zoD,zoA,or_false]at a;subst a;decide
 split at a
 ·simp at a
 ·rename_i h1 h2 h3 h4
  obtain⟨k,rfl⟩:∃k:Nat,h=k:=⟨h.toNat,by omega⟩
  obtain⟨g,off,_,hd⟩:=zd9 b (k:=k) (by omega)
  rw[zov]at a;exact hd.2.2.1 n a
theorem zcV{d:PlanD}{w:World}(c:d.lie w){e:Option Addr}{an:Nat}{zs:List Int}(b:Has .i64 w e an zs)(h f:Int):(Lit.int .i64 (yU d h f zs)).wf=true:=by
 unfold yU;split
 ·decide
 ·rename_i h0
  have a:f.toNat<(zE d h zs).length:=by omega
  rw[zoi,zoh a,zoC];exact zis c b h _ (List.getElem_mem a)
def zdb(d:PlanD)(r:RefD):Int:=yU d r.h r.f []
def yw(d:PlanD)(ks:List RefD):List Int:=ks.map (zdb d)
def stp(d:PlanD)(ks:List RefD)(k:Nat):List Int:=(ks.take k).map (zdb d)++List.replicate (ks.length-k) 0
theorem zkw(d:PlanD)(ks:List RefD):stp d ks 0=List.replicate ks.length 0:=by simp[stp]
theorem zlS(d:PlanD)(ks:List RefD):stp d ks ks.length=yw d ks:=by simp[stp,yw]
theorem zkx{d:PlanD}{ks:List RefD}{k:Nat}{r:RefD}(h:ks[k]?=some r):(stp d ks k).set k (zdb d r)=stp d ks (k+1):=by
 obtain⟨c,e⟩:=zok.1 h;subst e;unfold stp;apply List.ext_getElem?
 intro j;rw[List.getElem?_set];by_cases b:k=j
 ·subst b;rw[if_pos rfl,if_pos (by simp;omega)]
  rw[zoL (by simp;omega)]
  simp[zoh c]
 ·rw[if_neg b];by_cases a:j<k
  ·rw[zoL (by simp;omega),zoL (by simp;omega)]
   simp only[zoy,List.getElem?_take,if_pos a,if_pos (show j<k+1 by omega)]
  ·rw[zoO (by simp;omega),zoO (by simp;omega)]
   simp only[zoE,List.length_take,List.getElem?_replicate];rw[Nat.min_eq_left (by omega),Nat.min_eq_left (by omega)]
   by_cases f:j<ks.length
   ·rw[if_pos (by omega),if_pos (by omega)]
   ·rw[if_neg (by omega),if_neg (by omega)]
theorem znK(m:Nat):(madeCells #[Value.int .i64 0] m).toList=II (List.replicate m 0):=by
 have h:=toList_madeCells_one (.int .i64 0) m;simp only[II,List.map_replicate];exact h
theorem zn5{w:World}{base g m cap i:Nat}{a:List Int}{x:Int}(h:w.ownsRow base 3 1 (.slice (some ⟨g,0,none⟩) m cap) m (II a)):
 (w.setCell ⟨g,i,none⟩ (.int .i64 x)).ownsRow base 3 1 (.slice (some ⟨g,0,none⟩) m cap) m (II (a.set i x)):=by
 have h2:=(h.stored i (.int .i64 x)).1;simp only[II,List.map_set];exact h2
@[reducible] def TabD.v(t:TabD):Value:=.agg #[.int .i64 t.kind,.slice t.keys.a t.keys.n t.keys.c,.slice t.acts.a t.acts.n t.acts.c,.int .i64 t.cap,.int .i64 t.dflt,.slice t.args.a t.args.n t.args.c]
@[reducible] def TabD.box(t:TabD):Obj:=.cells #[.int .i64 t.kind,.slice t.keys.a t.keys.n t.keys.c,.slice t.acts.a t.acts.n t.acts.c,.int .i64 t.cap,.int .i64 t.dflt,.slice t.args.a t.args.n t.args.c] 69
theorem jx{d:PlanD}{t:TabD}{w wr:World}(hb:Below (w.heap.size+2) ((w.alloc d.box).alloc t.box) wr):
 (∀i,wr.cell? ⟨w.heap.size,i,none⟩=(#[.slice d.heads.a d.heads.n d.heads.c,.slice d.mta.a d.mta.n d.mta.c,.slice d.states.a d.states.n d.states.c,.slice d.acts.a d.acts.n d.acts.c,.slice d.tabs.a d.tabs.n d.tabs.c,.slice d.nodes.a d.nodes.n d.nodes.c,.slice d.out.a d.out.n d.out.c]:Array Value)[i]?)/\wr.cell? ⟨w.heap.size+1,1,none⟩=some (.slice t.keys.a t.keys.n t.keys.c):=
 ⟨fun i=>(hb.cell (p:=⟨w.heap.size,i,none⟩) (by simp)).trans ((zoe _ _ _ (by simp)).trans (zod _ _ _ _ rfl)),(hb.cell (p:=⟨w.heap.size+1,1,none⟩) (by simp)).trans ((zod _ _ _ _ (by simp)).trans rfl)⟩
def xt(w:World)(L:List Int)(e:Ending)(w':World):Prop:=∃a c,e=.returned (.slice a L.length c)/\(a=none->L.length=0/\c=0)/\Has .i64 w' a L.length L/\Below w.heap.size w w'
theorem zff(d:PlanD)(t:TabD)(w:World)(U:d.lie w)(u:QRow 2 RefD.lie w t.keys t.ks)(Y:t.keys.n<=10000)(h0:0<t.keys.n):
 Calls Tryz.prog 179 #[d.v,t.v] w (xt w (yw d t.ks)):=by
 obtain⟨i0,hi,K,O,I⟩:=info_parts Tryz.infoInt;obtain⟨g,off,_,X,_⟩:=zu u h0;have l:=hid u.1;have P:=hid U;have HK:=hid u;clear U u;go_enter Tryz.func179,Tryz.ntmps179
 go_wp2_with (at_make;refine wpList_make_full _ rfl _ _ 23 rfl w.heap.size 3 i0 (.int .i64 0) 1 Tryz.underlying23 hi K O _ _ _ _ t.keys.n rfl rfl ?m1 ?m2 ?m3 ?m4 ?m5 ?_)
 case m1=>rfl
 case m2=>rfl
 case m3=>rw[I];omega
 case m4=>unfold maxLen;omega
 case m5=>simp;omega
 intro M i B;have A:((w.alloc d.box).alloc t.box).grownBy M none:=by unfold TabD.box;rw[X];exact B
 clear B;have m:Below (w.heap.size+2) ((w.alloc d.box).alloc t.box) M:=(zof _ _).grown A (by simp) (by intro k u;cases u)
 rw[znK]at i;have S:Hid (M.ownsRow w.heap.size 3 1 (.slice (some ⟨w.heap.size+1+1,0,none⟩) t.keys.n t.keys.n) t.keys.n (II (stp d t.ks 0))):=by rw[zkw,l.out];exact i
 have Q:=hid m;have q1:=(jx m).2;clear m i A;go_wp2;go_loopw [15,6,7] (fun q _ _ wr=>∃k:Nat,k<=t.keys.n/\q=.int .i64 k/\Hid (wr.ownsRow w.heap.size 3 1 (.slice (some ⟨w.heap.size+1+1,0,none⟩) t.keys.n t.keys.n) t.keys.n (II (stp d t.ks k)))/\Hid (Below (w.heap.size+2) ((w.alloc d.box).alloc t.box) wr)) (fun q _ _ _=>t.keys.n-(intOf q).toNat)
 case atStart=>exact⟨0,zon _,rfl,S,Q⟩
 case round=>
  obtain⟨k,u,rfl,y,hb⟩:=hrel;have B0:Hid (Below w.heap.size w wr):=(ze (ze (zof w.heap.size w))).trans (hb.out.mono (by omega))
  clear q1 S Q;by_cases F:k<t.keys.n
  ·obtain⟨g',C,r,s,hr,⟨⟨r0,_⟩,⟨r1,_⟩⟩⟩:=zu (HK.out.step RefD.keeps B0.out) F;obtain⟨rfl,rfl⟩:g=g'/\off=C:=by rw[X]at s;simpa using s
   clear s;have a2:(k:Int)<(t.keys.n:Int):=by omega
   have J:=hid (zkx (d:=d) hr);have b:=(jx hb.out).1;have bo:∀o,Below wr.heap.size wr (wr.alloc o):=fun o=>ze (zof _ _)
   have p0:∀o,(wr.alloc o).cell? ⟨w.heap.size,0,none⟩=some (.slice d.heads.a d.heads.n d.heads.c):=fun o=>za (b 0) (bo o)
   have p1:∀o,(wr.alloc o).cell? ⟨w.heap.size,1,none⟩=some (.slice d.mta.a d.mta.n d.mta.c):=fun o=>za (b 1) (bo o)
   have Z:∀o,(wr.alloc o).cell? ⟨w.heap.size,2,none⟩=some (.slice d.states.a d.states.n d.states.c):=fun o=>za (b 2) (bo o)
   have p3:∀o,(wr.alloc o).cell? ⟨w.heap.size,3,none⟩=some (.slice d.acts.a d.acts.n d.acts.c):=fun o=>za (b 3) (bo o)
   have p4:∀o,(wr.alloc o).cell? ⟨w.heap.size,4,none⟩=some (.slice d.tabs.a d.tabs.n d.tabs.c):=fun o=>za (b 4) (bo o)
   have p5:∀o,(wr.alloc o).cell? ⟨w.heap.size,5,none⟩=some (.slice d.nodes.a d.nodes.n d.nodes.c):=fun o=>za (b 5) (bo o)
   have p6:∀o,(wr.alloc o).cell? ⟨w.heap.size,6,none⟩=some (.slice d.out.a d.out.n d.out.c):=fun o=>za (b 6) (bo o)
   have T:Hid (∀o,Calls Tryz.prog 156 #[d.v,.agg #[.int .i64 r.h,.int .i64 r.f],.slice none 0 0] (wr.alloc o) fun e w'=>e=.returned (.int .i64 (zdb d r))/\Below (wr.alloc o).heap.size (wr.alloc o) w'):=fun o=>zaw d r.h r.f none 0 0 [] _ ((P.out.step B0.out).step (bo o)) (zW _ _)
   have H:=hid bo;have N:w.heap.size+1+1<wr.heap.size:=(y.out.lt _ rfl).2;clear b hr bo;generalize zdb d r=R at*;go_wp2_with fail
   refine(T.out _).mono ?_;rintro e E ⟨rfl,x⟩;have j:=zU (zU y.out (H.out _)) x;have D:Below (w.heap.size+2) ((w.alloc d.box).alloc t.box) E:=hb.out.trans ((zh (H.out _) x).mono (by have:=hb.out.size;simpa using this))
   have a1:E.cell? ⟨w.heap.size+1+1,k,none⟩=some (.int .i64 ((stp d t.ks k).getD k 0)):=by
    rw[j.cellAt k (by omega)]
    have:k<(stp d t.ks k).length:=by have:=j.1;simp only[II,zoE]at this;omega
    simp only[II,zoy,zoi,zoh this];rfl
   have a0:E.frozen? ⟨w.heap.size+1+1,k,none⟩=false:=j.frozenAt _;have G:Hid ((E.setCell ⟨w.heap.size+1+1,k,none⟩ (.int .i64 R)).ownsRow w.heap.size 3 1 (.slice (some ⟨w.heap.size+1+1,0,none⟩) t.keys.n t.keys.n) t.keys.n (II (stp d t.ks (k+1)))):=by rw[<-J.out];exact zn5 j
   have L:=hid (D.setCell (p:=⟨w.heap.size+1+1,k,none⟩) (by simp) (.int .i64 R))
   clear x j D T p0 p1 Z p3 p4 p5 p6 r0 r1 N H B0 y hb;generalize(stp d t.ks k).getD k 0=old at*;go_wp2;go_roundw
   case rel=>exact⟨k+1,by omega,by go_num,G,L⟩
   case measure=>simp[intOf];omega
  ·have W:k=t.keys.n:=by omega
   have HF:Hid (xt w (yw d t.ks) (.returned (.slice (some ⟨w.heap.size+1+1,0,none⟩) t.keys.n t.keys.n)) wr):=by
    have V:(yw d t.ks).length=t.keys.n:=by rw[yw,zoE,l.out]
    refine⟨some ⟨w.heap.size+1+1,0,none⟩,t.keys.n,by rw[V],by simp,?_,B0.out⟩
    have h2:=y.out;rw[W,<-l.out,zlS,l.out]at h2;rw[V];refine kJ h2 fun n Y=>?_
    obtain⟨r,_,rfl⟩:=zoJ.1 Y;exact zcV P.out (zW _ w) _ _
   clear y hb;subst W;go_wp2;go_ret;exact HF.out
theorem zfg(d:PlanD)(t:TabD)(w:World)(f:QRow 2 RefD.lie w t.keys t.ks)(h0:t.keys.n=0):
 Calls Tryz.prog 179 #[d.v,t.v] w (xt w (yw d t.ks)):=by
 obtain⟨x,hi,j,i,l⟩:=info_parts Tryz.infoInt;have e:t.ks=[]:=zoG (f.1.trans h0);have u:Hid (∀w',Below w.heap.size w w'->xt w (yw d t.ks) (.returned (.slice (some ⟨w.heap.size+1+1,0,none⟩) 0 0)) w'):=fun w' hb=>by
  rw[e];exact⟨some ⟨w.heap.size+1+1,0,none⟩,0,rfl,by simp,⟨rfl,by simp[yw],.inl (by simp[yw])⟩,hb⟩
 unfold TabD.v;rw[h0];clear f e h0;go_enter Tryz.func179,Tryz.ntmps179
 go_wp2_with (at_make;refine wpList_make_full _ rfl _ _ 23 rfl w.heap.size 3 x (.int .i64 0) 1 Tryz.underlying23 hi j i _ _ _ _ 0 rfl rfl ?m1 ?m2 ?m3 ?m4 ?m5 ?_)
 case m1=>rfl
 case m2=>rfl
 case m3=>rw[l];omega
 case m4=>unfold maxLen;omega
 case m5=>simp;omega
 intro g _ b;have r:Hid (∀o s,w.alloc o |>.alloc s |>.grownBy g none->Below w.heap.size w g):=fun o s h=>(ze (ze (zof w.heap.size w))).grown h (by simp;omega) (by intro k f;cases f)
 have m:=hid (r.out _ _ b);have q1:g.cell? ⟨w.heap.size+1,1,none⟩=some (.slice t.keys.a 0 t.keys.c):=((zof _ _).grown b (zos _) (by intro k f;cases f)).cell (p:=⟨w.heap.size+1,1,none⟩) (by simp) |>.trans ((zod _ _ _ _ (by simp)).trans rfl)
 clear b r;go_wp2;go_loopw [15,6,7] (fun q _ _ wr=>q=.int .i64 0/\Hid (g=wr)) (fun _ _ _ _=>0)
 case atStart=>exact⟨rfl,rfl⟩
 case round=>
  obtain⟨rfl,hw⟩:=hrel;obtain rfl:=hw.out;clear hw;go_wp2;go_ret;exact u.out _ m.out
theorem zgd(d:PlanD)(t:TabD)(w:World)(b:d.lie w)(a:QRow 2 RefD.lie w t.keys t.ks)(c:t.keys.n<=10000):
 Calls Tryz.prog 179 #[d.v,t.v] w (xt w (yw d t.ks)):=by
 by_cases h0:t.keys.n=0
 ·exact zfg d t w a h0
 ·exact zff d t w b a c (by omega)
theorem znL{ops:Array Oper}{o:Oper}{a:Act}{w:World}{K:Act->World->Prop}{Q:Exit->Act->World->Prop}{E:Prop}(l:o.guard=none)(s x:Operand)
 (r:o.op=.call {callee:=.builtin .append,args:= #[s,x],argTypes:= #[23,23]}) (base n m c:Nat) (v:Value) (f zs:List Int) (ad:Addr)
 (hs:a.eval s=v) (t:a.eval x=.slice (some ad) m c) (d:w.ownsRow base 3 1 v n (II f)) (q:Has .i64 w (some ad) m zs) (e:n+m<=10000000) (b:base<=w.heap.size)
 (h:∀v' w',w'.ownsRow base 3 1 v' (n+m) (II (f++zs))->Below base w w'->K (a.put o.dst v') w'):
 if Region.wanted o (yielded ops a.tmps)=true then Oper.wp Tryz.prog o a w K Q else E:=by
 have hw:Region.wanted o (yielded ops a.tmps)=true:=by simp[Region.wanted,l]
 rw[if_pos hw];obtain⟨A,hi,i,g,j⟩:=info_parts Tryz.infoInt;refine wp_append_own w s x 23 r base 3 A (.int .i64 0) 1 8 Tryz.underlying23 hi i g j rfl (by decide) v n (II f) hs d ad m c (II zs) t (by have:=q.1;simp[II];omega) (zaN q) (zge zs) (by unfold maxLen;omega) (by omega) b ?_
 intro v' w' y h2 _;refine h v' w' (by simpa[II]using y) ((zof _ _).grown h2 b ?_)
 intro k u;exact(d.lt k u).1
theorem zm3{w w':World}{s g o B:Nat}{v0 v1 v2 v3 v4 v5 v6 c d f:Value}(h:w.cell? ⟨s,0,none⟩=some v0/\w.cell? ⟨s,1,none⟩=some v1/\w.cell? ⟨s,2,none⟩=some v2/\w.cell? ⟨s,3,none⟩=some v3/\w.cell? ⟨s,4,none⟩=some v4/\w.cell? ⟨s,5,none⟩=some v5/\w.cell? ⟨s,6,none⟩=some v6/\w.cell? ⟨s+1,1,none⟩=some c/\w.cell? ⟨g,o,none⟩=some d/\w.cell? ⟨g,o+1,none⟩=some f)(b:Below B w w')(hs:s<B)(a:s+1<B)(e:g<B):w'.cell? ⟨s,0,none⟩=some v0/\w'.cell? ⟨s,1,none⟩=some v1/\w'.cell? ⟨s,2,none⟩=some v2/\w'.cell? ⟨s,3,none⟩=some v3/\w'.cell? ⟨s,4,none⟩=some v4/\w'.cell? ⟨s,5,none⟩=some v5/\w'.cell? ⟨s,6,none⟩=some v6/\w'.cell? ⟨s+1,1,none⟩=some c/\w'.cell? ⟨g,o,none⟩=some d/\w'.cell? ⟨g,o+1,none⟩=some f:=
 ⟨(b.cell (p:=⟨s,0,none⟩) hs).trans (h.1),(b.cell (p:=⟨s,1,none⟩) hs).trans (h.2.1),(b.cell (p:=⟨s,2,none⟩) hs).trans (h.2.2.1),(b.cell (p:=⟨s,3,none⟩) hs).trans (h.2.2.2.1),(b.cell (p:=⟨s,4,none⟩) hs).trans (h.2.2.2.2.1),(b.cell (p:=⟨s,5,none⟩) hs).trans (h.2.2.2.2.2.1),(b.cell (p:=⟨s,6,none⟩) hs).trans (h.2.2.2.2.2.2.1),(b.cell (p:=⟨s+1,1,none⟩) a).trans (h.2.2.2.2.2.2.2.1),(b.cell (p:=⟨g,o,none⟩) e).trans (h.2.2.2.2.2.2.2.2.1),(b.cell (p:=⟨g,o+1,none⟩) e).trans (h.2.2.2.2.2.2.2.2.2)⟩
theorem zea(d:PlanD)(t:TabD)(w:World)(U:d.lie w)(I:QRow 2 RefD.lie w t.keys t.ks)(hn:t.keys.n<=500):
 Calls Tryz.prog 60 #[d.v,t.v] w (xt w (yw d t.ks)):=by
 have H:=hid I.1;have J:=hid U;have HK:=hid I;have D:Hid (Below (w.heap.size+2) ((w.alloc d.box).alloc t.box) ((w.alloc d.box).alloc t.box)):=zof _ _;clear U I;go_enter Tryz.func60,Tryz.ntmps60
 go_wp2;go_loopw [5,6] (fun v q wr=>∃k:Nat,k<=t.keys.n/\q=.int .i64 k/\Hid (wr.ownsRow (w.heap.size+2) 3 1 v k (II (yw d (t.ks.take k))))/\Hid (Below (w.heap.size+2) ((w.alloc d.box).alloc t.box) wr)) (fun _ q _=>t.keys.n-(intOf q).toNat)
 case atStart=>exact⟨0,zon _,rfl,zoH _ _ _ _,D⟩
 case round=>
  rename_i v0 _
  obtain⟨k,I,rfl,s,hb⟩:=hrel;have B0:Hid (Below w.heap.size w wr):=(ze (ze (zof w.heap.size w))).trans (hb.out.mono (by omega))
  have Q:w.heap.size+2<=wr.heap.size:=by have:=hb.out.size;simpa using this
  obtain⟨N,c0,rfl,_,C⟩:=jR s.out;have K:=hid C;clear C;clear D;have b:=(jx hb.out).1;by_cases u:k<t.keys.n
  ·obtain⟨g,off,r,Z,hr,⟨⟨r0,_⟩,⟨r1,_⟩⟩⟩:=zu (HK.out.step RefD.keeps B0.out) u;have q1:=(jx hb.out).2;have a1:(k:Int)<(t.keys.n:Int):=by omega
   have hg:g<w.heap.size+2:=by
    obtain⟨g',V,r',m,_,⟨⟨L,_⟩,_⟩⟩:=zu HK.out u;have:=zog w _ L;rw[Z]at m;simp only[zoo,Addr.mk.injEq,and_true]at m;have e:=m.1;simp only at this;omega
   have p0:wr.cell? ⟨w.heap.size,0,none⟩=some (.slice d.heads.a d.heads.n d.heads.c):=b 0;have p1:wr.cell? ⟨w.heap.size,1,none⟩=some (.slice d.mta.a d.mta.n d.mta.c):=b 1;have p2:wr.cell? ⟨w.heap.size,2,none⟩=some (.slice d.states.a d.states.n d.states.c):=b 2;have p3:wr.cell? ⟨w.heap.size,3,none⟩=some (.slice d.acts.a d.acts.n d.acts.c):=b 3;have p4:wr.cell? ⟨w.heap.size,4,none⟩=some (.slice d.tabs.a d.tabs.n d.tabs.c):=b 4;have p5:wr.cell? ⟨w.heap.size,5,none⟩=some (.slice d.nodes.a d.nodes.n d.nodes.c):=b 5;have p6:wr.cell? ⟨w.heap.size,6,none⟩=some (.slice d.out.a d.out.n d.out.c):=b 6;rw[Z]at q1;have Y:Hid (yw d (t.ks.take k)++[zdb d r]=yw d (t.ks.take (k+1))):=by
    simp only[Hid,yw];rw[zoI,hr];simp
   have F:=hid (zcV J.out (zW .i64 w) r.h r.f);have T:Hid (Calls Tryz.prog 97 #[d.v,.agg #[.int .i64 r.h,.int .i64 r.f],.slice none 0 0] wr.drew fun e w'=>e=.returned (.int .i64 (zdb d r))/\Below wr.drew.heap.size wr.drew w'):=jI d r.h r.f none 0 0 [] _ ((J.out.step B0.out).step (zof wr.heap.size wr).drew) (zW _ _)
   have A:Hid ((Lit.int .i64 (zdb d r)).wf=true):=F;clear F;generalize zdb d r=R at*;have x:=hid s.out.drew;have S:Hid (w.heap.size+2<=wr.drew.heap.size):=by show w.heap.size+2<=wr.drew.heap.size;simpa using Q
   clear b;go_wp2_with fail
   go_region_held3 (fun w'=>w'.cell? ⟨w.heap.size,0,none⟩=some (.slice d.heads.a d.heads.n d.heads.c)/\w'.cell? ⟨w.heap.size,1,none⟩=some (.slice d.mta.a d.mta.n d.mta.c)/\w'.cell? ⟨w.heap.size,2,none⟩=some (.slice d.states.a d.states.n d.states.c)/\w'.cell? ⟨w.heap.size,3,none⟩=some (.slice d.acts.a d.acts.n d.acts.c)/\w'.cell? ⟨w.heap.size,4,none⟩=some (.slice d.tabs.a d.tabs.n d.tabs.c)/\w'.cell? ⟨w.heap.size,5,none⟩=some (.slice d.nodes.a d.nodes.n d.nodes.c)/\w'.cell? ⟨w.heap.size,6,none⟩=some (.slice d.out.a d.out.n d.out.c)/\w'.cell? ⟨w.heap.size+1,1,none⟩=some (.slice (some ⟨g,off,none⟩) t.keys.n t.keys.c)/\w'.cell? ⟨g,off+k*2,none⟩=some (.int .i64 r.h)/\w'.cell? ⟨g,off+k*2+1,none⟩=some (.int .i64 r.f))
    (first
     |go_keep
     |(go_split_ands
       exact zm3 ⟨by assumption,by assumption,by assumption,by assumption,by assumption,by assumption,by assumption,by assumption,by assumption,by assumption⟩ i (by omega) (by omega) hg))
    (first
     |(go_at_call 97;refine T.out.mono ?_;rintro e wx ⟨rfl,j⟩;have i:=j.mono S.out;have o:=hid (zU x.out j);have l:=hid (zoz S.out j.size);have E:=hid i)
     |(refine znL rfl _ _ rfl (w.heap.size+2) k 1 1 (.slice N k c0) _ [R] ⟨_,0,none⟩ (by simp[Act.eval]) (by simp[Act.eval]) (zU o.out (ze (zof _ _))) (qi _ R A.out) (by omega) (by simp;have:=l.out;omega) ?_;intro v1 W B i;have y:=hid B;have G:=hid i))
   all_goals
    have M:Hid (W.ownsRow (w.heap.size+2) 3 1 v1 (k+1) (II (yw d (t.ks.take (k+1))))):=by rw[<-Y.out];exact y.out
    have P:Hid (Below (w.heap.size+2) ((w.alloc d.box).alloc t.box) W):=(((hb.out.drew).trans E.out).alloc l.out _).trans G.out;clear y G E l o S x T Y s hb B0 B i j;go_wp2;go_roundw
    case rel=>exact⟨k+1,by omega,by go_num,M,P⟩
    case measure=>simp[intOf];omega
  ·have X:k=t.keys.n:=by omega
   have q1:=(jx hb.out).2;have HF:Hid (xt w (yw d t.ks) (.returned (.slice N k c0)) wr):=by
    have h2:=s.out;rw[List.take_of_length_le (by rw[H.out];omega)]at h2
    have O:(yw d t.ks).length=k:=by rw[yw,zoE,H.out,X]
    refine⟨N,c0,by rw[O],fun e=>by rw[O];exact K.out e,?_,B0.out⟩
    rw[O];refine kJ h2 fun n hn=>?_
    obtain⟨r,_,rfl⟩:=zoJ.1 hn;exact zcV J.out (zW _ w) _ _
   clear s hb b;subst X;go_wp2;go_ret;exact HF.out
def qB(num:Int)(a:Nat)(least most:Int)(c:Nat->Int)(C A:Int):Prop:=
 (((a:Int)<least\/most<(a:Int))/\C=2/\A= -num)\/
 (¬((a:Int)<least\/most<(a:Int))/\((∃n,n<a/\c n≠0/\(∀j,j<n->c j=0)/\C=c n/\A=1000*num+n)\/((∀j,j<a->c j=0)/\C=0/\A=0)))
def qf(num:Int)(a:Nat)(least most:Int)(c:Nat->Int)(w:World)(e:Ending)(w':World):Prop:=
 ∃C A,qB num a least most c C A/\e=.returned (.agg #[.int .i64 C,.int .i64 A])/\Below w.heap.size w w'
abbrev PB(a:Nat)(least most:Int)(b:Value):Obj:=.cells #[.int .i64 a,.int .i64 least,.int .i64 most,b] 230
abbrev FZ:Obj:=.cells #[.int .i64 0,.int .i64 0] 34
theorem qC{w wr:World}{a:Nat}{least most:Int}{b:Value}(hb:Below (w.heap.size+2) ((w.alloc (PB a least most b)).alloc FZ) wr):
 wr.cell? ⟨w.heap.size,3,none⟩=some b/\wr.cell? ⟨w.heap.size+1,0,none⟩=some (.int .i64 0)/\wr.cell? ⟨w.heap.size+1,1,none⟩=some (.int .i64 0)/\wr.frozen? ⟨w.heap.size+1,0,none⟩=false/\wr.frozen? ⟨w.heap.size+1,1,none⟩=false/\w.heap.size+1<wr.heap.size:=
 ⟨(hb.cell (p:=⟨w.heap.size,3,none⟩) (by simp)).trans (by simp),(hb.cell (p:=⟨w.heap.size+1,0,none⟩) (by simp)).trans (by simp),(hb.cell (p:=⟨w.heap.size+1,1,none⟩) (by simp)).trans (by simp),
  (hb.frozen (p:=⟨w.heap.size+1,0,none⟩) (by simp)).trans (by simp),(hb.frozen (p:=⟨w.heap.size+1,1,none⟩) (by simp)).trans (by simp),by have:=hb.size;simp at this;omega⟩
theorem zeW{w wr:World}{a:Nat}{least most:Int}{b:Value}(hb:Below (w.heap.size+2) ((w.alloc (PB a least most b)).alloc FZ) wr)(x y:Value):Below w.heap.size w ((wr.setCell ⟨w.heap.size+1,0,none⟩ x).setCell ⟨w.heap.size+1,1,none⟩ y):=
 (((ze (ze (zof w.heap.size w))).trans (hb.mono (by omega))).setCell (by simp) _).setCell (by simp) _
def zmx(N:Nat)(d:Value)(a:Nat)(c:Nat->Int)(w:World):Prop:=
 ∀w',Below w.heap.size w w'->∀n:Nat,n<a->Calls Tryz.prog N #[d,.int .i64 n] w' fun e b=>e=.returned (.int .i64 (c n))/\Below w'.heap.size w' b
theorem zkm(N:Nat)(y:Value)(num:Int)(a:Nat)(least most:Int)(c:Nat->Int)(w:World)(u:N=137\/N=138\/N=139\/N=140\/N=141\/N=142\/N=143)(D:1<=num/\num<=7)(A:most<=100)(f:zmx N y a c w):
 Calls Tryz.prog 144 #[.agg #[.int .i64 a,.int .i64 least,.int .i64 most,.func (.func N) #[y] #[]],.int .i64 num] w (qf num a least most c w):=by
 by_cases n:(a:Int)<least
 ·have h:Hid (∀w',Below w.heap.size w w'->qf num a least most c w (.returned (.agg #[.int .i64 2,.int .i64 (-num)])) w'):=fun w' hb=>⟨2,-num,.inl ⟨.inl n,rfl,rfl⟩,rfl,hb⟩
  have E:=zoY n;clear f u;go_enter Tryz.func144,Tryz.ntmps144
  go_wp2;exact bodyPost_ret (v:=.agg #[.int .i64 2,.int .i64 (-num)]) (by simp[results,Tryz.results144,go_sem]) rfl (h.out _ (ze (ze (zof _ _))))
 have E:=zoX n;by_cases h2:most<(a:Int)
 ·have h:Hid (∀w',Below w.heap.size w w'->qf num a least most c w (.returned (.agg #[.int .i64 2,.int .i64 (-num)])) w'):=fun w' hb=>⟨2,-num,.inl ⟨.inr h2,rfl,rfl⟩,rfl,hb⟩
  have J:=zoY h2;clear f u;go_enter Tryz.func144,Tryz.ntmps144
  go_wp2;exact bodyPost_ret (v:=.agg #[.int .i64 2,.int .i64 (-num)]) (by simp[results,Tryz.results144,go_sem]) rfl (h.out _ (ze (ze (zof _ _))))
 have J:=zoX h2;have s:¬((a:Int)<least\/most<(a:Int)):=by omega
 have L:a<=100:=by omega
 have t:=hid s;have HC:=hid f;have B:=hid u;clear f u s n h2;go_enter Tryz.func144,Tryz.ntmps144
 go_wp2;go_loopw [24,5,6] (fun q _ _ wr=>∃k:Nat,k<=a/\q=.int .i64 k/\Hid (∀j,j<k->c j=0)/\Hid (Below (w.heap.size+2) ((w.alloc (PB a least most (.func (.func N) #[y] #[]))).alloc FZ) wr)) (fun q _ _ _=>a-(intOf q).toNat)
 case atStart=>exact⟨0,zon _,rfl,fun j C=>absurd C (by omega),zof _ _⟩
 case round=>
  obtain⟨k,K,rfl,r,hb⟩:=hrel;obtain⟨q3,f0,f1,z0,z1,sz⟩:=qC hb.out;by_cases o:k<a
  ·have I:(k:Int)<(a:Int):=by omega
   have f:=hid (HC.out wr ((ze (ze (zof w.heap.size w))).trans (hb.out.mono (by omega))) k o)
   clear q3 f0 f1 z0 z1 sz;have m:Hid (∀i,Below wr.heap.size wr i->Below (w.heap.size+2) ((w.alloc (PB a least most (.func (.func N) #[y] #[]))).alloc FZ) i):=fun i n=>hb.out.trans (n.mono (by have:=hb.out.size;simpa using this))
   by_cases d:c k=0
   ·have F:Hid (∀j,j<k+1->c j=0):=fun j C=>by
     by_cases G:j=k
     ·subst G;exact d
     ·exact r.out j (by omega)
    rw[d]at f;clear d;rcases B.out with rfl|rfl|rfl|rfl|rfl|rfl|rfl
    all_goals
     have q3:=(qC hb.out).1;go_wp2_with fail
     refine f.out.mono ?_;rintro e i ⟨rfl,b⟩;have g:=hid (m.out i b);clear b q3;go_wp2;go_roundw
     case rel=>exact⟨k+1,by omega,by go_num,F,g⟩
     case measure=>simp[intOf];omega
   ·have h:Hid (∀w',Below w.heap.size w w'->qf num a least most c w (.returned (.agg #[.int .i64 (c k),.int .i64 (1000*num+k)])) w'):=fun w' hb=>⟨c k,1000*num+k,.inr ⟨t.out,.inl ⟨k,o,d,r.out,rfl,rfl⟩⟩,rfl,hb⟩
    generalize c k=x at*;have M:(x !=0)=true:=by simpa using d
    rcases B.out with rfl|rfl|rfl|rfl|rfl|rfl|rfl
    all_goals
     have q3:=(qC hb.out).1;go_wp2_with fail
     refine f.out.mono ?_;rintro e i ⟨rfl,b⟩;have g:=hid (m.out i b);obtain⟨_,f0,f1,z0,z1,sz⟩:=qC g.out;have l:=hid (zeW g.out (.int .i64 x) (.int .i64 (1000*num+k)));clear b q3 HC m r hb f;go_wp2;exact bodyPost_ret (v:=.agg #[.int .i64 x,.int .i64 (1000*num+k)]) (by simp[results,Tryz.results144,go_sem, *]) rfl (h.out _ l.out)
  ·have H:k=a:=by omega
   subst H;have h:Hid (∀w',Below w.heap.size w w'->qf num k least most c w (.returned (.agg #[.int .i64 0,.int .i64 0])) w'):=fun w' hb=>⟨0,0,.inr ⟨t.out,.inr ⟨r.out,rfl,rfl⟩⟩,rfl,hb⟩
   have l:=hid (zeW hb.out (.int .i64 0) (.int .i64 0));clear HC hb r q3;go_wp2;exact bodyPost_ret (v:=.agg #[.int .i64 0,.int .i64 0]) (by simp[results,Tryz.results144,go_sem, *]) rfl (h.out _ l.out)
structure Kd (α : Type) where
 k : Nat
 cells : α -> List Value
 lie : α -> World -> Nat -> Nat -> Prop
 inn : α -> World -> Prop
 pos : 0 < k
 len : ∀ x, (cells x).length = k
 lay : ∀ {x : α} {w : World} {g o : Nat}, (∀ j u, (cells x)[j]? = some u -> w.cell? ⟨g, o + j, none⟩ = some u) -> inn x w -> lie x w g o
 cell : ∀ {x : α} {w : World} {g o : Nat}, lie x w g o -> ∀ j u, (cells x)[j]? = some u -> w.cell? ⟨g, o + j, none⟩ = some u
 out : ∀ {x : α} {w : World} {g o : Nat}, lie x w g o -> inn x w
 cov : ∀ {x : α} {w w' : World}, inn x w -> Cov w w' -> inn x w'
 step : ∀ {x : α} {w w' : World}, inn x w -> Below w.heap.size w w' -> inn x w'
 one : ∀ x, ∀ u ∈ cells x, u.oneCell' = true
namespace Kd
variable {α : Type} (K : Kd α)
theorem flat_len(S:List α):(S.flatMap K.cells).length=S.length*K.k:=by
 induction S with
 |nil=>simp
 |cons s S ih=>rw[List.flatMap_cons,zor,ih,K.len,List.length_cons,Nat.add_mul,Nat.one_mul,Nat.add_comm]
theorem flat_at{S:List α}{i r:Nat}{s: α}{u:Value}(h:S[i]?=some s)(a:(K.cells s)[r]?=some u):(S.flatMap K.cells)[i*K.k+r]?=some u:=by
 have hr:r<K.k:=by have:=(zok.1 a).1;rwa[K.len]at this
 induction S generalizing i with
 |nil=>simp at h
 |cons x S ih=>
  cases i with
  |zero=>
   simp only[List.getElem?_cons_zero,zoo]at h;subst h;rw[List.flatMap_cons,Nat.zero_mul,zoK,zoL (by rw[K.len];exact hr),a]
  |succ i=>
   simp only[List.getElem?_cons_succ]at h;rw[List.flatMap_cons,zoO (by rw[K.len,Nat.add_mul];omega),K.len,show(i+1)*K.k+r-K.k=i*K.k+r by rw[Nat.add_mul];omega]
   exact ih h
theorem flat_of{S:List α}{j:Nat}{u:Value}(h:(S.flatMap K.cells)[j]?=some u):∃i r s,S[i]?=some s/\(K.cells s)[r]?=some u/\j=i*K.k+r:=by
 induction S generalizing j with
 |nil=>simp at h
 |cons x S ih=>
  rw[List.flatMap_cons]at h;by_cases b:j<K.k
  ·rw[zoL (by rw[K.len];exact b)]at h
   exact⟨0,j,x,rfl,h,by omega⟩
  ·rw[zoO (by rw[K.len];omega),K.len]at h
   obtain⟨i,r,s,a,h2,c⟩:=ih h;exact⟨i+1,r,s,a,h2,by rw[Nat.add_mul];omega⟩
theorem flat_one(S:List α):∀u∈S.flatMap K.cells,u.oneCell'=true:=by
 intro u a;obtain⟨s,_,hs⟩:=List.mem_flatMap.1 a;exact K.one s u hs
theorem row{w:World}{base n c:Nat}{T:TypeId}{a:Option Addr}{S:List α}(h:w.ownsRow base T K.k (.slice a n c) n (S.flatMap K.cells))(hi:∀s∈S,K.inn s w):QRow K.k K.lie w ⟨a,n,c⟩ S:=by
 have f:S.length=n:=by
  have:=h.1;rw[K.flat_len]at this;exact Nat.eq_of_mul_eq_mul_right K.pos this
 refine⟨f,fun i s hs=>?_⟩
 have l:i<n:=by have:=(zok.1 hs).1;omega
 rcases h.2 with⟨_,e⟩|⟨g,cap,d,e,_⟩
 ·omega
 ·simp only[zox]at e;obtain⟨rfl,_,rfl⟩:=e;refine⟨g,0,rfl,K.lay (fun j u b=>?_) (hi s (zol hs))⟩
  have hr:j<K.k:=by have:=(zok.1 b).1;rwa[K.len]at this
  rw[zoK,h.cellAt (i*K.k+j) ?_,K.flat_at hs b];have:(i+1)*K.k<=n*K.k:=Nat.mul_le_mul_right _ (by omega)
  rw[Nat.add_mul]at this;omega
theorem own_nil0{w:World}{base n c e k:Nat}{a:Option Addr}{xs:List Value}(h:w.ownsRow base e k (.slice a n c) n xs):a=none->n=0/\c=0:=by
 intro ha;rcases h.2 with⟨e,_⟩|⟨g,cap,b,e,_⟩
 ·simp only[zox]at e;exact⟨e.2.1,e.2.2⟩
 ·simp only[zox]at e;rw[ha]at e;cases e.1
theorem src{w:World}{s:QSl}{S:List α}(h:QRow K.k K.lie w s S){g off:Nat}(d:s.a=some ⟨g,off,none⟩):∀j u,(S.flatMap K.cells)[j]?=some u->w.cell? ((⟨g,off,none⟩:Addr).add j)=some u:=by
 intro j u l;obtain⟨i,r,x,c,h2,rfl⟩:=K.flat_of l;obtain⟨m,b,e,f⟩:=h.2 i x c;rw[d]at e;simp only[zoo,Addr.mk.injEq,and_true]at e;obtain⟨rfl,rfl⟩:=e;rw[Addr.add_lit,<-Nat.add_assoc];exact K.cell f r u h2
theorem inns{w:World}{s:QSl}{S:List α}(h:QRow K.k K.lie w s S):∀x∈S,K.inn x w:=by
 intro x b;obtain⟨i,hi,rfl⟩:=zoR b;obtain⟨g,off,_,a⟩:=h.2 i _ (zoh hi);exact K.out a
end Kd
@[reducible] def wfI(n:Int):Prop:=(Lit.int .i64 n).wf=true
@[reducible] def wfU(n:Int):Prop:=(Lit.int .u64 n).wf=true
def kRef:Kd RefD where
 k:=2
 cells x:=[.int .i64 x.h,.int .i64 x.f]
 lie:=RefD.lie
 inn x _:=wfI x.h/\wfI x.f
 pos:=by decide
 len _:=rfl
 lay h i:=⟨⟨h 0 _ rfl,i.1⟩,⟨h 1 _ rfl,i.2⟩⟩
 cell h j u hu:=by
  match j,hu with
  |0,hu=>cases hu;exact h.1.1
  |1,hu=>cases hu;exact h.2.1
  |j+2,hu=>simp at hu
 out h:=⟨h.1.2,h.2.2⟩
 cov i _:=i
 step i _:=i
 one x u hu:=by simp at hu;rcases hu with rfl|rfl<;>rfl
def kPush:Kd PushD where
 k:=4
 cells x:=[.int .i64 x.op,.int .i64 x.r.h,.int .i64 x.r.f,.int .u64 x.n]
 lie:=PushD.lie
 inn x _:=wfI x.op/\wfI x.r.h/\wfI x.r.f/\wfU x.n
 pos:=by decide
 len _:=rfl
 lay h i:=⟨⟨h 0 _ rfl,i.1⟩,⟨h 1 _ rfl,i.2.1⟩,⟨h 2 _ rfl,i.2.2.1⟩,⟨h 3 _ rfl,i.2.2.2⟩⟩
 cell h j u hu:=by
  match j,hu with
  |0,hu=>cases hu;exact h.1.1
  |1,hu=>cases hu;exact h.2.1.1
  |2,hu=>cases hu;exact h.2.2.1.1
  |3,hu=>cases hu;exact h.2.2.2.1
  |j+4,hu=>simp at hu
 out h:=⟨h.1.2,h.2.1.2,h.2.2.1.2,h.2.2.2.2⟩
 cov i _:=i
 step i _:=i
 one x u hu:=by simp at hu;rcases hu with rfl|rfl|rfl|rfl<;>rfl
def kCase:Kd CaseD where
 k:=3
 cells x:=[.int .u64 x.value,.int .u64 x.mask,.int .i64 x.to]
 lie:=CaseD.lie
 inn x _:=wfU x.value/\wfU x.mask/\wfI x.to
 pos:=by decide
 len _:=rfl
 lay h i:=⟨⟨h 0 _ rfl,i.1⟩,⟨h 1 _ rfl,i.2.1⟩,⟨h 2 _ rfl,i.2.2⟩⟩
 cell h j u hu:=by
  match j,hu with
  |0,hu=>cases hu;exact h.1.1
  |1,hu=>cases hu;exact h.2.1.1
  |2,hu=>cases hu;exact h.2.2.1
  |j+3,hu=>simp at hu
 out h:=⟨h.1.2,h.2.1.2,h.2.2.2⟩
 cov i _:=i
 step i _:=i
 one x u hu:=by simp at hu;rcases hu with rfl|rfl|rfl<;>rfl
def kHead:Kd HeadD where
 k:=1
 cells x:=[.slice x.w.a x.w.n x.w.c]
 lie:=HeadD.lie
 inn x w:=x.w.nil0/\Has .i64 w x.w.a x.w.n x.ws
 pos:=by decide
 len _:=rfl
 lay h i:=⟨⟨h 0 _ rfl,i.1⟩,i.2⟩
 cell h j u hu:=by
  match j,hu with
  |0,hu=>cases hu;exact h.1.1
  |j+1,hu=>simp at hu
 out h:=⟨h.1.2,h.2⟩
 cov i c:=⟨i.1,i.2.cov c⟩
 step i b:=⟨i.1,i.2.step b⟩
 one x u hu:=by simp at hu;subst hu;rfl
def kState:Kd StateD where
 k:=5
 cells x:=[.int .i64 x.head,.int .i64 x.r.h,.int .i64 x.r.f,.slice x.cases.a x.cases.n x.cases.c,.int .i64 x.els]
 lie:=StateD.lie
 inn x w:=(wfI x.head/\wfI x.r.h/\wfI x.r.f/\x.cases.nil0/\wfI x.els)/\QRow 3 CaseD.lie w x.cases x.cs
 pos:=by decide
 len _:=rfl
 lay h i:=⟨⟨h 0 _ rfl,i.1.1⟩,⟨h 1 _ rfl,i.1.2.1⟩,⟨h 2 _ rfl,i.1.2.2.1⟩,⟨h 3 _ rfl,i.1.2.2.2.1⟩,⟨h 4 _ rfl,i.1.2.2.2.2⟩,i.2⟩
 cell h j u hu:=by
  match j,hu with
  |0,hu=>cases hu;exact h.1.1
  |1,hu=>cases hu;exact h.2.1.1
  |2,hu=>cases hu;exact h.2.2.1.1
  |3,hu=>cases hu;exact h.2.2.2.1.1
  |4,hu=>cases hu;exact h.2.2.2.2.1.1
  |j+5,hu=>simp at hu
 out h:=⟨⟨h.1.2,h.2.1.2,h.2.2.1.2,h.2.2.2.1.2,h.2.2.2.2.1.2⟩,h.2.2.2.2.2⟩
 cov i c:=⟨i.1,i.2.cov CaseD.covs c⟩
 step i b:=⟨i.1,i.2.step CaseD.keeps b⟩
 one x u hu:=by simp at hu;rcases hu with rfl|rfl|rfl|rfl|rfl<;>rfl
def kOp:Kd OpD where
 k:=5
 cells x:=[.int .i64 x.kind,.int .i64 x.r.h,.int .i64 x.r.f,.int .i64 x.head,.slice x.e.a x.e.n x.e.c]
 lie:=OpD.lie
 inn x w:=(wfI x.kind/\wfI x.r.h/\wfI x.r.f/\wfI x.head/\x.e.nil0)/\QRow 4 PushD.lie w x.e x.es
 pos:=by decide
 len _:=rfl
 lay h i:=⟨⟨h 0 _ rfl,i.1.1⟩,⟨h 1 _ rfl,i.1.2.1⟩,⟨h 2 _ rfl,i.1.2.2.1⟩,⟨h 3 _ rfl,i.1.2.2.2.1⟩,⟨h 4 _ rfl,i.1.2.2.2.2⟩,i.2⟩
 cell h j u hu:=by
  match j,hu with
  |0,hu=>cases hu;exact h.1.1
  |1,hu=>cases hu;exact h.2.1.1
  |2,hu=>cases hu;exact h.2.2.1.1
  |3,hu=>cases hu;exact h.2.2.2.1.1
  |4,hu=>cases hu;exact h.2.2.2.2.1.1
  |j+5,hu=>simp at hu
 out h:=⟨⟨h.1.2,h.2.1.2,h.2.2.1.2,h.2.2.2.1.2,h.2.2.2.2.1.2⟩,h.2.2.2.2.2⟩
 cov i c:=⟨i.1,i.2.cov PushD.covs c⟩
 step i b:=⟨i.1,i.2.step PushD.keeps b⟩
 one x u hu:=by simp at hu;rcases hu with rfl|rfl|rfl|rfl|rfl<;>rfl
def kAct:Kd ActD where
 k:=2
 cells x:=[.slice x.w.a x.w.n x.w.c,.slice x.ops.a x.ops.n x.ops.c]
 lie:=ActD.lie
 inn x w:=(x.w.nil0/\x.ops.nil0)/\Has .i64 w x.w.a x.w.n x.ws/\QRow 5 OpD.lie w x.ops x.os
 pos:=by decide
 len _:=rfl
 lay h i:=⟨⟨h 0 _ rfl,i.1.1⟩,⟨h 1 _ rfl,i.1.2⟩,i.2⟩
 cell h j u hu:=by
  match j,hu with
  |0,hu=>cases hu;exact h.1.1
  |1,hu=>cases hu;exact h.2.1.1
  |j+2,hu=>simp at hu
 out h:=⟨⟨h.1.2,h.2.1.2⟩,h.2.2⟩
 cov i c:=⟨i.1,i.2.1.cov c,i.2.2.cov OpD.covs c⟩
 step i b:=⟨i.1,i.2.1.step b,i.2.2.step OpD.keeps b⟩
 one x u hu:=by simp at hu;rcases hu with rfl|rfl<;>rfl
def kTab:Kd TabD where
 k:=6
 cells x:=[.int .i64 x.kind,.slice x.keys.a x.keys.n x.keys.c,.slice x.acts.a x.acts.n x.acts.c,.int .i64 x.cap,.int .i64 x.dflt,.slice x.args.a x.args.n x.args.c]
 lie:=TabD.lie
 inn x w:=(wfI x.kind/\x.keys.nil0/\x.acts.nil0/\wfI x.cap/\wfI x.dflt/\x.args.nil0)/\QRow 2 RefD.lie w x.keys x.ks/\Has .i64 w x.acts.a x.acts.n x.al/\Has .u64 w x.args.a x.args.n x.zs
 pos:=by decide
 len _:=rfl
 lay h i:=⟨⟨h 0 _ rfl,i.1.1⟩,⟨h 1 _ rfl,i.1.2.1⟩,⟨h 2 _ rfl,i.1.2.2.1⟩,⟨h 3 _ rfl,i.1.2.2.2.1⟩,⟨h 4 _ rfl,i.1.2.2.2.2.1⟩,⟨h 5 _ rfl,i.1.2.2.2.2.2⟩,i.2⟩
 cell h j u hu:=by
  match j,hu with
  |0,hu=>cases hu;exact h.1.1
  |1,hu=>cases hu;exact h.2.1.1
  |2,hu=>cases hu;exact h.2.2.1.1
  |3,hu=>cases hu;exact h.2.2.2.1.1
  |4,hu=>cases hu;exact h.2.2.2.2.1.1
  |5,hu=>cases hu;exact h.2.2.2.2.2.1.1
  |j+6,hu=>simp at hu
 out h:=⟨⟨h.1.2,h.2.1.2,h.2.2.1.2,h.2.2.2.1.2,h.2.2.2.2.1.2,h.2.2.2.2.2.1.2⟩,h.2.2.2.2.2.2⟩
 cov i c:=⟨i.1,i.2.1.cov RefD.covs c,i.2.2.1.cov c,i.2.2.2.cov c⟩
 step i b:=⟨i.1,i.2.1.step RefD.keeps b,i.2.2.1.step b,i.2.2.2.step b⟩
 one x u hu:=by simp at hu;rcases hu with rfl|rfl|rfl|rfl|rfl|rfl<;>rfl
def kNode:Kd NodeD where
 k:=5
 cells x:=[.int .i64 x.kind,.int .i64 x.n,.slice x.e.a x.e.n x.e.c,.int .i64 x.yes,.int .i64 x.no]
 lie:=NodeD.lie
 inn x w:=(wfI x.kind/\wfI x.n/\x.e.nil0/\wfI x.yes/\wfI x.no)/\QRow 4 PushD.lie w x.e x.es
 pos:=by decide
 len _:=rfl
 lay h i:=⟨⟨h 0 _ rfl,i.1.1⟩,⟨h 1 _ rfl,i.1.2.1⟩,⟨h 2 _ rfl,i.1.2.2.1⟩,⟨h 3 _ rfl,i.1.2.2.2.1⟩,⟨h 4 _ rfl,i.1.2.2.2.2⟩,i.2⟩
 cell h j u hu:=by
  match j,hu with
  |0,hu=>cases hu;exact h.1.1
  |1,hu=>cases hu;exact h.2.1.1
  |2,hu=>cases hu;exact h.2.2.1.1
  |3,hu=>cases hu;exact h.2.2.2.1.1
  |4,hu=>cases hu;exact h.2.2.2.2.1.1
  |j+5,hu=>simp at hu
 out h:=⟨⟨h.1.2,h.2.1.2,h.2.2.1.2,h.2.2.2.1.2,h.2.2.2.2.1.2⟩,h.2.2.2.2.2⟩
 cov i c:=⟨i.1,i.2.cov PushD.covs c⟩
 step i b:=⟨i.1,i.2.step PushD.keeps b⟩
 one x u hu:=by simp at hu;rcases hu with rfl|rfl|rfl|rfl|rfl<;>rfl
theorem jt{F F':Nat->Prop}(w:World)(h:∀b,F' b->F b):Cov (mask F (fun _=>Classical.propDecidable _) w) (mask F' (fun _=>Classical.propDecidable _) w):=by
 refine⟨by rw[yb,yb];exact zos _,fun g o v a=>?_⟩
 by_cases hF:F g
 ·have c:g<w.heap.size:=by have:=zog _ _ a;rwa[yb]at this
  simp only[World.cell?,kZ hF c]at a;simp at a
 ·exact zh9 ((zeS F w).2 _ _ _ a) (fun d=>hF (h g d))
end Go.Proofs.YtdajaaondlekfaaGreat
namespace Go.Proofs.YtdajaaondlekfaaGreat
open Go.RowKit
theorem xL{w:World}{T t:TypeId}{z:Value}{k bs:Nat}(ty:TypeId)(H:Tryz.prog.underlying t=some (.slice T))(x:(Tryz.prog.info? T).map (fun i=>(i.zero,i.size,i.bytes))=some (some z,k,bs))(F:z.cells.size=k)(S:0<k)
 {base n cap:Nat} {la:Option Addr} {xs news:List Value} {ad:Addr} {m c:Nat} (a:w.ownsRow base T k (.slice la n cap) n xs) (G:news.length=m*k) (K:∀j u,news[j]?=some u->w.cell? (ad.add j)=some u) (N:∀u∈news,u.oneCell'=true) (hm:0<m)
 (A:n+m<=maxLen) (C:(n+m)*bs<=140737488355328) (l:base<=w.heap.size):
 ∃g o w',(Builtin.append_ #[t,t] ty #[.slice la n cap,.slice (some ad) m c]).run Tryz.prog w=.ok (.slice (some ⟨g,0,none⟩) (n+m) o) w'/\w'.ownsRow base T k (.slice (some ⟨g,0,none⟩) (n+m) o) (n+m) (xs++news)/\w.grownBy w' (Value.slice la n cap).ownBlock/\(la=some ⟨g,0,none⟩\/w.heap.size<=g):=by
 obtain⟨J,hi,s,f,q⟩:=info_parts x;have form:∀{v':Value} {w':World} {B:Nat} {R:List Value},w'.ownsRow B T k v' (n+m) R->∃g c,v'=.slice (some ⟨g,0,none⟩) (n+m) c:=by
  intro v' w' B R h;rcases h.2 with⟨_,e⟩|⟨g,c,Q,e,_⟩
  ·omega
  ·exact⟨g,c,e⟩
 rcases a.2 with⟨U,e2⟩|⟨g,V,Q,e,hb,hh,Z,a0,W,a1⟩
 ·simp only[zox]at U;obtain⟨rfl,_,rfl⟩:=U;subst e2;have L:xs=[]:=zoG (by have:=a.1;omega)
  subst L;obtain⟨v',w',b,r1,E,-⟩:=run_append_own (P:=Tryz.prog) w w.heap.size t ty T J z k bs H hi s f q F S (.slice none 0 0) 0 [] (zoH _ _ _ _) ad m c news G K N A C (zos _);obtain⟨I,O,rfl⟩:=form r1;exact⟨I,O,w',b,⟨r1.1,by
   rcases r1.2 with h|⟨g2,c2,D,Y,M,r⟩
   ·exact .inl h
   ·exact .inr ⟨g2,c2,D,Y,zoz l M,r⟩⟩,E,.inr (r1.lt I rfl).1⟩
 ·simp only[zox,true_and]at e;obtain⟨rfl,rfl⟩:=e;by_cases y:n+m<=cap
  ·obtain⟨w',b,r1,E⟩:=run_append_fits (P:=Tryz.prog) w base t ty T J k H hi f g n cap xs a ad m c news G K N y;exact⟨g,cap,w',b,r1,E,.inl rfl⟩
  ·obtain⟨v',w',b,r1,E,-⟩:=run_append_own (P:=Tryz.prog) w base t ty T J z k bs H hi s f q F S (.slice (some ⟨g,0,none⟩) n cap) n xs a ad m c news G K N A C l;obtain⟨I,O,rfl⟩:=form r1;have d:=run_append_grow (P:=Tryz.prog) w t ty T J z H hi s ⟨g,0,none⟩ n cap xs (by rw[f];exact a.1) (fun j v X=>a.cells rfl j v X) ad m c news (by rw[f];exact G) K (by omega) (by unfold maxLen at A;omega) (by rw[q];exact growslice_fits (by omega) (by omega))
   rw[b]at d;simp only[Result.ok.injEq,zox,zoo,Addr.mk.injEq,and_true]at d;exact⟨I,O,w',b,r1,E,.inr (Nat.le_of_eq d.1.1.symm)⟩
theorem znG{ops:Array Oper}{o:Oper}{a:Act}{w:World}{K:Act->World->Prop}{Q:Exit->Act->World->Prop}{E:Prop}{T t:TypeId}{z:Value}{k bs:Nat}
 (D:Tryz.prog.underlying t=some (.slice T)) (d:(Tryz.prog.info? T).map (fun i=>(i.zero,i.size,i.bytes))=some (some z,k,bs)) (y:z.cells.size=k) (B:0<k) (r:bs<=1000) (q:o.guard=none) (s x:Operand)
 (A:o.op=.call {callee:=.builtin .append,args:= #[s,x],argTypes:= #[t,t]}) (base n cap c:Nat) (la:Option Addr) (xs news:List Value) (ad:Addr)
 (hs:a.eval s=.slice la n cap) (G:a.eval x=.slice (some ad) 1 c) (f:w.ownsRow base T k (.slice la n cap) n xs) (L:news.length=k) (I:∀j u,news[j]?=some u->w.cell? (ad.add j)=some u) (C:∀u∈news,u.oneCell'=true) (J:n<=100000) (e:base<=w.heap.size)
 (h:∀g b w',w'.ownsRow base T k (.slice (some ⟨g,0,none⟩) (n+1) b) (n+1) (xs++news)->w.grownBy w' (Value.slice la n cap).ownBlock->(la=some ⟨g,0,none⟩\/w.heap.size<=g)->K (a.put o.dst (.slice (some ⟨g,0,none⟩) (n+1) b)) w'):
 if Region.wanted o (yielded ops a.tmps)=true then Oper.wp Tryz.prog o a w K Q else E:=by
 have hw:Region.wanted o (yielded ops a.tmps)=true:=by simp[Region.wanted,q]
 rw[if_pos hw];obtain⟨g,b,w',l,r1,F,H⟩:=xL (c:=c) o.type D d y B f (m:=1) (by omega) I C (by omega) (by unfold maxLen;omega) (by
  have:(n+1)*bs<=100001*1000:=Nat.mul_le_mul (by omega) r
  omega) e
 unfold Oper.wp execOp;simp only[A,resolve,invoke,builtin,Sem.run_bind,Sem.run_pure,Result.andThen_ok,List.map_toArray,List.map_cons,List.map_nil,hs,G,l];exact h g b w' r1 F H
theorem zau{α :Type}(K:Kd α){w:World}{T l:TypeId}{z:Value}{bs:Nat}(ty:TypeId)(F:Tryz.prog.underlying l=some (.slice T))(d:(Tryz.prog.info? T).map (fun i=>(i.zero,i.size,i.bytes))=some (some z,K.k,bs))(C:z.cells.size=K.k)(t:bs<=1000)
 {s:QSl} {S:List α} (hr:QRow K.k K.lie w s S) (h0:s.nil0) (o:s.n<=100000):
 ∃a c w',(Builtin.append_ #[l,l] ty #[.slice none 0 0,.slice s.a s.n s.c]).run Tryz.prog w=.ok (.slice a s.n c) w'/\w'.ownsRow w.heap.size T K.k (.slice a s.n c) s.n (S.flatMap K.cells)/\Below w.heap.size w w':=by
 obtain⟨G,hi,y,B,r⟩:=info_parts d;have h:(S.flatMap K.cells).length=s.n*K.k:=by rw[K.flat_len,hr.1]
 obtain⟨sa,sn,sc⟩:=s;cases sa with
 |none=>
  obtain⟨E,q⟩:=h0 rfl;dsimp only at E q;subst E;subst q;refine⟨none,0,w,run_append_owned_none (P:=Tryz.prog) w w.heap.size l ty T G K.k F hi (.slice none 0 0) 0 [] (zoH _ _ _ _),?_,zof _ _⟩;have:S=[]:=zoG hr.1;subst this;exact zoH _ _ _ _
 |some ad=>
  have A:S≠[]->∃g off,ad=⟨g,off,none⟩:=by
   intro b;obtain⟨x,M,rfl⟩:=List.exists_cons_of_ne_nil b;obtain⟨g,off,e,_⟩:=hr.2 0 x rfl;exact⟨g,off,zoq e⟩
  have m:∀j u,(S.flatMap K.cells)[j]?=some u->w.cell? (ad.add j)=some u:=by
   by_cases b:S=[]
   ·subst b;intro j u J;simp at J
   ·obtain⟨g,off,rfl⟩:=A b;exact K.src hr rfl
  have D:sn*bs<=100000*1000:=Nat.mul_le_mul o t;obtain⟨v',w',f,r1,I,-⟩:=run_append_own (P:=Tryz.prog) w w.heap.size l ty T G z K.k bs F hi y B r C K.pos (.slice none 0 0) 0 [] (zoH _ _ _ _) ad sn sc (S.flatMap K.cells) h m (K.flat_one S) (by unfold maxLen;dsimp only at o;omega) (by rw[zoK];omega) (zos _)
  rw[zoK,List.nil_append]at r1;obtain⟨a,c,e⟩:∃a c,v'=.slice a sn c:=by
   rcases r1.2 with⟨e,q⟩|⟨g,c,L,e,_⟩
   ·exact⟨none,0,by rw[e,q]⟩
   ·exact⟨_,c,e⟩
  subst e;exact⟨a,c,w',f,r1,(zof _ _).grown I (zos _) (by intro j H;simp[Value.ownBlock]at H)⟩
theorem yg{w w':World}{ops:Array Oper}{rest:List Oper}{o:Oper}{a:Act}{Q:Exit->Act->World->Prop}{c:TypeId}(d:o.guard=none)(s x:Operand)
 (g:o.op=.call {callee:=.builtin .append,args:= #[s,x],argTypes:= #[c,c]}) {e f v':Value} (hs:a.eval s=e) (j:a.eval x=f) (b:(Builtin.append_ #[c,c] o.type #[e,f]).run Tryz.prog w=.ok v' w')
 (h:wpList Tryz.prog ops Q rest (a.put o.dst v') w'):wpList Tryz.prog ops Q (o::rest) a w:=
 wpList_plain d fun _ i=>by
  unfold Oper.wp execOp;simp only[g,resolve,invoke,builtin,Sem.run_bind,Sem.run_pure,Result.andThen_ok,List.map_toArray,List.map_cons,List.map_nil,hs,j,b];exact i _ _ h
theorem zac{w w':World}{ops:Array Oper}{o:Oper}{a:Act}{K:Act->World->Prop}{Q:Exit->Act->World->Prop}{E:Prop}{c:TypeId}(d:o.guard=none)(s x:Operand)
 (g:o.op=.call {callee:=.builtin .append,args:= #[s,x],argTypes:= #[c,c]}) {e f v':Value} (hs:a.eval s=e) (i:a.eval x=f) (b:(Builtin.append_ #[c,c] o.type #[e,f]).run Tryz.prog w=.ok v' w')
 (h:K (a.put o.dst v') w'):if Region.wanted o (yielded ops a.tmps)=true then Oper.wp Tryz.prog o a w K Q else E:=by
 have hw:Region.wanted o (yielded ops a.tmps)=true:=by simp[Region.wanted,d]
 rw[if_pos hw];unfold Oper.wp execOp;simp only[g,resolve,invoke,builtin,Sem.run_bind,Sem.run_pure,Result.andThen_ok,List.map_toArray,List.map_cons,List.map_nil,hs,i,b];exact h
def kInt:Kd Int where
 k:=1
 cells x:=[.int .i64 x]
 lie x w g o:=CI w g o x
 inn x _:=wfI x
 pos:=by decide
 len _:=rfl
 lay h i:=⟨h 0 _ rfl,i⟩
 cell h j u hu:=by
  match j,hu with
  |0,hu=>cases hu;exact h.1
  |j+1,hu=>simp at hu
 out h:=h.2
 cov i _:=i
 step i _:=i
 one x u hu:=by simp at hu;subst hu;rfl
def kNum:Kd Int where
 k:=1
 cells x:=[.int .u64 x]
 lie x w g o:=CU w g o x
 inn x _:=wfU x
 pos:=by decide
 len _:=rfl
 lay h i:=⟨h 0 _ rfl,i⟩
 cell h j u hu:=by
  match j,hu with
  |0,hu=>cases hu;exact h.1
  |j+1,hu=>simp at hu
 out h:=h.2
 cov i _:=i
 step i _:=i
 one x u hu:=by simp at hu;subst hu;rfl
theorem zj1{w:World}{s:QSl}{zs:List Int}(h:Has .i64 w s.a s.n zs):QRow kInt.k kInt.lie w s zs:=by
 refine⟨h.1,fun i x c=>?_⟩
 have hi:=(zok.1 c).1;obtain⟨b,off,e,_,d⟩:=h.some (by rw[<-h.1];omega)
 have:=d i (by rw[<-h.1];exact hi)
 rw[zoi,c,zoC]at this;refine⟨b,off,e,?_,h.2.1 x (zol c)⟩;rw[show kInt.k=1 from rfl,Nat.mul_one]
 exact this
theorem zad{w:World}{s:QSl}{zs:List Int}(h:QRow kInt.k kInt.lie w s zs):Has .i64 w s.a s.n zs:=by
 refine⟨h.1,fun x f=>?_,?_⟩
 ·exact kInt.inns h x f
 ·cases zs with
  |nil=>exact .inl rfl
  |cons z zs=>
   obtain⟨g,off,e,h0⟩:=h.2 0 z rfl;refine .inr ⟨g,off,e,zog w _ h0.1,fun i hi=>?_⟩
   have b:i<(z::zs).length:=by rw[h.1];exact hi
   obtain⟨l,d,c,j⟩:=h.2 i _ (zoh b);rw[e]at c;simp only[zoo,Addr.mk.injEq,and_true]at c;obtain⟨rfl,rfl⟩:=c;have:=j.1;rw[show kInt.k=1 from rfl,Nat.mul_one]at this
   rw[this,zoi,zoh b,zoC]
theorem zj2{w:World}{s:QSl}{zs:List Int}(h:Has .u64 w s.a s.n zs):QRow kNum.k kNum.lie w s zs:=by
 refine⟨h.1,fun i x c=>?_⟩
 have hi:=(zok.1 c).1;obtain⟨b,off,e,_,d⟩:=h.some (by rw[<-h.1];omega)
 have:=d i (by rw[<-h.1];exact hi)
 rw[zoi,c,zoC]at this;refine⟨b,off,e,?_,h.2.1 x (zol c)⟩;rw[show kNum.k=1 from rfl,Nat.mul_one]
 exact this
theorem zj3{w:World}{s:QSl}{zs:List Int}(h:QRow kNum.k kNum.lie w s zs):Has .u64 w s.a s.n zs:=by
 refine⟨h.1,fun x f=>?_,?_⟩
 ·exact kNum.inns h x f
 ·cases zs with
  |nil=>exact .inl rfl
  |cons z zs=>
   obtain⟨g,off,e,h0⟩:=h.2 0 z rfl;refine .inr ⟨g,off,e,zog w _ h0.1,fun i hi=>?_⟩
   have b:i<(z::zs).length:=by rw[h.1];exact hi
   obtain⟨l,d,c,j⟩:=h.2 i _ (zoh b);rw[e]at c;simp only[zoo,Addr.mk.injEq,and_true]at c;obtain⟨rfl,rfl⟩:=c;have:=j.1;rw[show kNum.k=1 from rfl,Nat.mul_one]at this
   rw[this,zoi,zoh b,zoC]
def CopyDone{α :Type}(K:Kd α)(T:TypeId)(S:List α)(n:Nat)(w:World)(e:Ending)(w':World):Prop:=
 ∃a c,e=.returned (.slice a n c)/\w'.ownsRow w.heap.size T K.k (.slice a n c) n (S.flatMap K.cells)/\Below w.heap.size w w'
abbrev old(w:World):Nat->Prop:=fun b=>b<w.heap.size
theorem yq{α :Type}(K:Kd α){T:TypeId}{w w':World}{n c:Nat}{a:Option Addr}{S:List α}(h:w'.ownsRow w.heap.size T K.k (.slice a n c) n (S.flatMap K.cells))(hi:∀s∈S,K.inn s (mask (old w) (fun _=>Classical.propDecidable _) w')):QRow K.k K.lie (mask (old w) (fun _=>Classical.propDecidable _) w') ⟨a,n,c⟩ S:=by
 refine K.row (base:=w.heap.size) (T:=T) ⟨h.1,?_⟩ hi;rcases h.2 with h2|⟨g,cap,b,e,hb,d,r⟩
 ·exact .inl h2
 ·exact .inr ⟨g,cap,b,e,hb,(yA (F:=old w) (k:=g) (show¬g<w.heap.size by omega)).trans d,r⟩
theorem Tryz.infoRef:(Tryz.prog.info? 57).map (fun i=>(i.zero,i.size,i.bytes))=some (some (.agg #[.int .i64 0,.int .i64 0]),2,16):=by kernel_rfl
theorem Tryz.infoPush:(Tryz.prog.info? 95).map (fun i=>(i.zero,i.size,i.bytes))=some (some (.agg #[.int .i64 0,.int .i64 0,.int .i64 0,.int .u64 0]),4,32):=by kernel_rfl
theorem Tryz.infoCase:(Tryz.prog.info? 163).map (fun i=>(i.zero,i.size,i.bytes))=some (some (.agg #[.int .u64 0,.int .u64 0,.int .i64 0]),3,24):=by kernel_rfl
theorem Tryz.infoHeader:(Tryz.prog.info? 55).map (fun i=>(i.zero,i.size,i.bytes))=some (some (.agg #[.slice none 0 0]),1,24):=by kernel_rfl
theorem Tryz.infoState:(Tryz.prog.info? 60).map (fun i=>(i.zero,i.size,i.bytes))=some (some (.agg #[.int .i64 0,.int .i64 0,.int .i64 0,.slice none 0 0,.int .i64 0]),5,56):=by kernel_rfl
theorem Tryz.infoOp:(Tryz.prog.info? 66).map (fun i=>(i.zero,i.size,i.bytes))=some (some (.agg #[.int .i64 0,.int .i64 0,.int .i64 0,.int .i64 0,.slice none 0 0]),5,56):=by kernel_rfl
theorem Tryz.infoAction:(Tryz.prog.info? 63).map (fun i=>(i.zero,i.size,i.bytes))=some (some (.agg #[.slice none 0 0,.slice none 0 0]),2,48):=by kernel_rfl
theorem Tryz.infoTable:(Tryz.prog.info? 69).map (fun i=>(i.zero,i.size,i.bytes))=some (some (.agg #[.int .i64 0,.slice none 0 0,.slice none 0 0,.int .i64 0,.int .i64 0,.slice none 0 0]),6,96):=by kernel_rfl
theorem Tryz.infoNode:(Tryz.prog.info? 71).map (fun i=>(i.zero,i.size,i.bytes))=some (some (.agg #[.int .i64 0,.int .i64 0,.slice none 0 0,.int .i64 0,.int .i64 0]),5,56):=by kernel_rfl
theorem Tryz.infoNum:(Tryz.prog.info? 75).map (fun i=>(i.zero,i.size,i.bytes))=some (some (.int .u64 0),1,8):=by kernel_rfl
theorem Tryz.infoInt0:(Tryz.prog.info? 3).map (fun i=>(i.zero,i.size,i.bytes))=some (some (.int .i64 0),1,8):=by kernel_rfl
theorem kI(s:QSl)(S:List Int)(w:World)(h:Has .i64 w s.a s.n S)(h0:s.nil0)(e:s.n<=100000):Calls Tryz.prog 20 #[.slice s.a s.n s.c] w (CopyDone kInt 3 S s.n w):=by
 obtain⟨a,c,w',b,d,hb⟩:=zau kInt 23 Tryz.underlying23 Tryz.infoInt0 rfl (by decide) (s:=s) (zj1 h) h0 e
 have HD:Hid (CopyDone kInt 3 S s.n w (.returned (.slice a s.n c)) w'):=⟨a,c,rfl,d,hb⟩;clear d hb h h0;go_enter Tryz.func20,Tryz.ntmps20
 go_wp2_with (at_builtin;refine yg rfl _ _ rfl rfl rfl b ?_)
 go_ret;exact HD.out
theorem zb2(s:QSl)(S:List PushD)(w:World)(h:QRow 4 PushD.lie w s S)(h0:s.nil0)(e:s.n<=100000):Calls Tryz.prog 21 #[.slice s.a s.n s.c] w (CopyDone kPush 95 S s.n w):=by
 obtain⟨a,c,w',b,d,hb⟩:=zau kPush 64 Tryz.underlying64 Tryz.infoPush rfl (by decide) (s:=s) h h0 e
 have HD:Hid (CopyDone kPush 95 S s.n w (.returned (.slice a s.n c)) w'):=⟨a,c,rfl,d,hb⟩;clear d hb h h0;go_enter Tryz.func21,Tryz.ntmps21
 go_wp2_with (at_builtin;refine yg rfl _ _ rfl rfl rfl b ?_)
 go_ret;exact HD.out
theorem Kd.keeps{α :Type}(K:Kd α):jw K.lie:=fun h b=>K.lay (fun j u a=>za (K.cell h j u a) b) (K.step (K.out h) b)
theorem Kd.covs{α :Type}(K:Kd α):zcN K.lie:=fun h c=>K.lay (fun j u a=>c.2 _ _ _ (K.cell h j u a)) (K.cov (K.out h) c)
structure Abv (B : Nat) (w w' : World) : Prop where
 os : w'.os = w.os
 tape : w'.tape = w.tape
 output : w'.output = w.output
 size : w'.heap.size = w.heap.size
 block : ∀ k, B <= k -> w'.heap[k]? = w.heap[k]?
abbrev zlJ(w:World)(a:Option Addr):Nat->Prop:=fun b=>b<w.heap.size\/(Value.slice a 0 0).ownBlock=some b
structure EachAt {α β : Type} (K : Kd α) (f : α -> β) (T : TypeId) (S : List α) (n : Nat) (w : World) (a : Option Addr) (c i : Nat) (L : List α) (wr : World) : Prop where
 own : wr.ownsRow w.heap.size T K.k (.slice a n c) n (L.flatMap K.cells)
 len : L.length = n
 done : ∀ (j : Nat) (x : α), j < i -> L[j]? = some x -> K.inn x (mask (zlJ w a) (fun _ => Classical.propDecidable _) wr)
 eqv : L.map f = S.map f
 rest : ∀ j, i <= j -> L[j]? = S[j]?
 bel : Below w.heap.size w wr
theorem ya{w w':World}{base n k:Nat}{T:TypeId}{v:Value}{xs:List Value}(h:w.ownsRow base T k v n xs)(b:Below w.heap.size w w'):w'.ownsRow base T k v n xs:=
 h.kept (row:=none) ⟨b.os,b.tape,b.output,b.size,fun k a _=>b.block k a⟩ (by cases v.ownBlock<;>simp)
structure PlanD.fits (d : PlanD) : Prop where
 hs : d.heads.n <= 100000 /\ ∀ x ∈ d.hs, x.w.n <= 100000
 ms : d.mta.n <= 100000
 ss : d.states.n <= 100000 /\ ∀ x ∈ d.ss, x.cases.n <= 100000
 al : d.acts.n <= 100000 /\ ∀ x ∈ d.al, x.w.n <= 100000 /\ x.ops.n <= 100000 /\ ∀ o ∈ x.os, o.e.n <= 100000
 ts : d.tabs.n <= 100000 /\ ∀ x ∈ d.ts, x.keys.n <= 100000 /\ x.acts.n <= 100000 /\ x.args.n <= 100000
 ns : d.nodes.n <= 100000 /\ ∀ x ∈ d.ns, x.e.n <= 100000
 os : d.out.n <= 100000
def zeV(d:PlanD)(w:World)(e:Ending)(w':World):Prop:=∃a:PlanD,e=.returned a.v/\a.lie w'/\a.nil0/\a.p=d.p/\Below w.heap.size w w'
theorem kW{w w':World}{s:Nat}{v0 v1 v2 v3 v4 v5 v6:Value}(h:w.cell? ⟨s,0,none⟩=some v0/\w.cell? ⟨s,1,none⟩=some v1/\w.cell? ⟨s,2,none⟩=some v2/\w.cell? ⟨s,3,none⟩=some v3/\w.cell? ⟨s,4,none⟩=some v4/\w.cell? ⟨s,5,none⟩=some v5/\w.cell? ⟨s,6,none⟩=some v6)(b:Below w.heap.size w w'):w'.cell? ⟨s,0,none⟩=some v0/\w'.cell? ⟨s,1,none⟩=some v1/\w'.cell? ⟨s,2,none⟩=some v2/\w'.cell? ⟨s,3,none⟩=some v3/\w'.cell? ⟨s,4,none⟩=some v4/\w'.cell? ⟨s,5,none⟩=some v5/\w'.cell? ⟨s,6,none⟩=some v6:=
 ⟨za h.1 b,za h.2.1 b,za h.2.2.1 b,za h.2.2.2.1 b,za h.2.2.2.2.1 b,za h.2.2.2.2.2.1 b,za h.2.2.2.2.2.2 b⟩
theorem zif(d:PlanD)(w:World):∃b b0 e,b=(w.alloc d.box).alloc (.cells #[.slice none 0 0,.slice none 0 0,.slice none 0 0,.slice none 0 0,.slice none 0 0,.slice none 0 0,.slice none 0 0] 29)/\b0=w.heap.size/\e=w.heap.size+1/\b.heap.size=w.heap.size+2/\(b.cell? ⟨b0,0,none⟩=some (.slice d.heads.a d.heads.n d.heads.c)/\b.cell? ⟨b0,1,none⟩=some (.slice d.mta.a d.mta.n d.mta.c)/\b.cell? ⟨b0,2,none⟩=some (.slice d.states.a d.states.n d.states.c)/\b.cell? ⟨b0,3,none⟩=some (.slice d.acts.a d.acts.n d.acts.c)/\b.cell? ⟨b0,4,none⟩=some (.slice d.tabs.a d.tabs.n d.tabs.c)/\b.cell? ⟨b0,5,none⟩=some (.slice d.nodes.a d.nodes.n d.nodes.c)/\b.cell? ⟨b0,6,none⟩=some (.slice d.out.a d.out.n d.out.c))/\(b.cell? ⟨e,0,none⟩=some (.slice none 0 0)/\b.cell? ⟨e,1,none⟩=some (.slice none 0 0)/\b.cell? ⟨e,2,none⟩=some (.slice none 0 0)/\b.cell? ⟨e,3,none⟩=some (.slice none 0 0)/\b.cell? ⟨e,4,none⟩=some (.slice none 0 0)/\b.cell? ⟨e,5,none⟩=some (.slice none 0 0)/\b.cell? ⟨e,6,none⟩=some (.slice none 0 0))/\∀i,b.frozen? ⟨e,i,none⟩=false:=by
 refine⟨_,_,_,rfl,rfl,rfl,by simp,?_,?_,?_⟩
 ·refine⟨?_,?_,?_,?_,?_,?_,?_⟩<;>exact(zoe _ _ _ (by simp)).trans ((zod _ _ _ _ rfl).trans rfl)
 ·refine⟨?_,?_,?_,?_,?_,?_,?_⟩<;>exact(zod _ _ _ _ (by simp)).trans rfl
 ·intro i;exact zoB _ _ _ _ (by simp)
def zb7(op:Int)(a b:Nat):Nat:=
 if op=3 then(a+b)%18446744073709551616 else if op=4 then(a+(18446744073709551616-b))%18446744073709551616 else if op=5 then(a*b)%18446744073709551616 else if op=6 then a&&& b else if op=7 then a|||b else if op=8 then a ^^^ b else if op=9 then(if 64<=b then 0 else(a*2^b)%18446744073709551616)else if op=10 then(if 64<=b then 0 else a/2^b)else if op=11 then(if a<b then 1 else 0)else if op=12 then(if a=b then 1 else 0)else 0
theorem zmf(op:Int):op=3\/op=4\/op=5\/op=6\/op=7\/op=8\/op=9\/op=10\/op=11\/op=12\/(op≠3/\op≠4/\op≠5/\op≠6/\op≠7/\op≠8/\op≠9/\op≠10/\op≠11/\op≠12):=by omega
theorem zoa(a b:Nat)(ha:a<18446744073709551616)(hb:b<18446744073709551616):bits .and .u64 (a:Int) (b:Int)=((a&&& b:Nat):Int):=u64_and_nat a b ha hb
theorem zob(a b:Nat)(ha:a<18446744073709551616)(hb:b<18446744073709551616):bits .or .u64 (a:Int) (b:Int)=((a|||b:Nat):Int):=u64_or_nat a b ha hb
theorem zoc(a b:Nat)(ha:a<18446744073709551616)(hb:b<18446744073709551616):bits .xor .u64 (a:Int) (b:Int)=((a ^^^ b:Nat):Int):=u64_xor_nat a b ha hb
theorem zax(x:Bool)(w:World):Calls Tryz.prog 165 #[.bool x] w fun e w'=>e=.returned (.int .u64 (if x=true then 1 else 0))/\w'=w:=by
 cases x
 all_goals
  go_enter Tryz.func165,Tryz.ntmps165
  go_wp2;go_ret;exact⟨rfl,rfl⟩
theorem ziS(op:Int)(a b:Nat)(ha:a<18446744073709551616)(hb:b<18446744073709551616)(w:World):Calls Tryz.prog 129 #[.int .i64 op,.int .u64 (a:Int),.int .u64 (b:Int)] w fun e w'=>e=.returned (.int .u64 ((zb7 op a b:Nat):Int))/\w'=w:=by
 rcases zmf op with rfl|rfl|rfl|rfl|rfl|rfl|rfl|rfl|rfl|rfl|⟨k,l,m,i,h7,j,n,g,f,d⟩
 ·go_enter Tryz.func129,Tryz.ntmps129
  go_wp2;go_ret;refine⟨xv ?_,rfl⟩;rw[IntKind.wrap_u64];show _=(((a+b)%18446744073709551616:Nat):Int);omega
 ·go_enter Tryz.func129,Tryz.ntmps129
  go_wp2;go_ret;refine⟨xv ?_,rfl⟩;rw[IntKind.wrap_u64];show _=(((a+(18446744073709551616-b))%18446744073709551616:Nat):Int);omega
 ·go_enter Tryz.func129,Tryz.ntmps129
  go_wp2;go_ret;refine⟨xv ?_,rfl⟩;rw[IntKind.wrap_u64];show _=(((a*b)%18446744073709551616:Nat):Int);rw[Int.natCast_emod,Int.natCast_mul];rfl
 ·go_enter Tryz.func129,Tryz.ntmps129
  go_wp2;go_ret;exact⟨xv (zoa a b ha hb),rfl⟩
 ·go_enter Tryz.func129,Tryz.ntmps129
  go_wp2;go_ret;exact⟨xv (zob a b ha hb),rfl⟩
 ·go_enter Tryz.func129,Tryz.ntmps129
  go_wp2;go_ret;exact⟨xv (zoc a b ha hb),rfl⟩
 ·go_enter Tryz.func129,Tryz.ntmps129
  go_wp2;go_ret;refine⟨xv ?_,rfl⟩;rw[IntKind.wrap_u64];show _=((if 64<=b then 0 else(a*2^b)%18446744073709551616:Nat):Int)
  by_cases h:64<=b
  ·rw[if_pos h,Nat.min_eq_right h];omega
  ·rw[if_neg h,Nat.min_eq_left (by omega),Int.natCast_emod,Int.natCast_mul,Int.natCast_pow]
   rfl
 ·go_enter Tryz.func129,Tryz.ntmps129
  go_wp2;go_ret;refine⟨xv ?_,rfl⟩;show _=((if 64<=b then 0 else a/2^b:Nat):Int)
  by_cases h:64<=b
  ·rw[if_pos h,Nat.min_eq_right h];omega
  ·rw[if_neg h,Nat.min_eq_left (by omega),Int.natCast_ediv,Int.natCast_pow]
   rfl
 ·by_cases h:a<b
  ·have hi:(a:Int)<(b:Int):=by omega
   have c:zb7 11 a b=1:=by show(if a<b then 1 else 0)=1;rw[if_pos h]
   rw[c];go_enter Tryz.func129,Tryz.ntmps129
   go_wp2_with (go_at_call 165;refine(zax _ _).mono ?_;rintro e w' ⟨rfl,rfl⟩)
   go_ret;exact⟨rfl,rfl⟩
  ·have hi:¬(a:Int)<(b:Int):=by omega
   have c:zb7 11 a b=0:=by show(if a<b then 1 else 0)=0;rw[if_neg h]
   rw[c];go_enter Tryz.func129,Tryz.ntmps129
   go_wp2_with (go_at_call 165;refine(zax _ _).mono ?_;rintro e w' ⟨rfl,rfl⟩)
   go_ret;exact⟨rfl,rfl⟩
 ·by_cases h:a=b
  ·subst h;have c:zb7 12 a a=1:=by show(if a=a then 1 else 0)=1;rw[if_pos rfl]
   rw[c];go_enter Tryz.func129,Tryz.ntmps129
   go_wp2_with (go_at_call 165;refine(zax _ _).mono ?_;rintro e w' ⟨rfl,rfl⟩)
   go_ret;exact⟨rfl,rfl⟩
  ·have hi:((a:Int)==(b:Int))=false:=beq_eq_false_iff_ne.2 (by omega)
   have c:zb7 12 a b=0:=by show(if a=b then 1 else 0)=0;rw[if_neg h]
   rw[c];go_enter Tryz.func129,Tryz.ntmps129
   go_wp2_with (go_at_call 165;refine(zax _ _).mono ?_;rintro e w' ⟨rfl,rfl⟩)
   go_ret;exact⟨rfl,rfl⟩
 ·have q3:(op==3)=false:=beq_eq_false_iff_ne.2 k;have q4:(op==4)=false:=beq_eq_false_iff_ne.2 l;have q5:(op==5)=false:=beq_eq_false_iff_ne.2 m;have q6:(op==6)=false:=beq_eq_false_iff_ne.2 i;have q7:(op==7)=false:=beq_eq_false_iff_ne.2 h7;have t:(op==8)=false:=beq_eq_false_iff_ne.2 j;have s:(op==9)=false:=beq_eq_false_iff_ne.2 n;have q:(op==10)=false:=beq_eq_false_iff_ne.2 g;have o:(op==11)=false:=beq_eq_false_iff_ne.2 f;have r:(op==12)=false:=beq_eq_false_iff_ne.2 d;have c:zb7 op a b=0:=by unfold zb7;simp[k,l,m,i,h7,j,n,g,f,d]
  rw[c];clear k l m i h7 j n g f d c;go_enter Tryz.func129,Tryz.ntmps129
  go_wp2;go_ret;exact⟨rfl,rfl⟩
structure VMK where
 sh : QSl
 tb : QSl
 pk : QSl
 zs : List Int
 port : Nat
structure VMD where
 rn : Nat -> Nat
 rs : Nat -> Bool
 sn : Nat -> Nat
 ss : Nat -> Bool
 out : List Int
def VMD.ok(m:VMD):Prop:=(∀i,m.rn i<18446744073709551616)/\∀i,m.sn i<18446744073709551616
def VMD.setR(m:VMD)(i n:Nat):VMD:={m with rn:=fun j=>if j=i then n else m.rn j,rs:=fun j=>if j=i then true else m.rs j}
def VMD.setS(m:VMD)(i n:Nat)(s:Bool):VMD:={m with sn:=fun j=>if j=i then n else m.sn j,ss:=fun j=>if j=i then s else m.ss j}
def VMD.send(m:VMD)(l:List Int):VMD:={m with out:=m.out++l}
theorem VMD.ok.setR{m:VMD}(h:m.ok){i n:Nat}(a:n<18446744073709551616):(m.setR i n).ok:=⟨fun j=>by
 show(if j=i then n else m.rn j)<_
 split
 ·exact a
 ·exact h.1 j,h.2⟩
theorem VMD.ok.setS{m:VMD}(h:m.ok){i n:Nat}{s:Bool}(a:n<18446744073709551616):(m.setS i n s).ok:=⟨h.1,fun j=>by
 show(if j=i then n else m.sn j)<_
 split
 ·exact a
 ·exact h.2 j⟩
theorem VMD.ok.send{m:VMD}(h:m.ok)(l:List Int):(m.send l).ok:=⟨h.1,h.2⟩
structure VMAt (W : World) (b : Nat) (k : VMK) (m : VMD) (w : World) : Prop where
 rn : ∀ i, i < 10 -> w.cell? ⟨b, i * 2, none⟩ = some (.int .u64 (m.rn i : Int))
 rs : ∀ i, i < 10 -> w.cell? ⟨b, i * 2 + 1, none⟩ = some (.bool (m.rs i))
 sn : ∀ i, i < 96 -> w.cell? ⟨b, 20 + i * 2, none⟩ = some (.int .u64 (m.sn i : Int))
 ss : ∀ i, i < 96 -> w.cell? ⟨b, 20 + i * 2 + 1, none⟩ = some (.bool (m.ss i))
 c0 : w.cell? ⟨b, 212, none⟩ = some (.slice k.sh.a k.sh.n k.sh.c)
 c1 : w.cell? ⟨b, 213, none⟩ = some (.slice k.tb.a k.tb.n k.tb.c)
 c2 : w.cell? ⟨b, 214, none⟩ = some (.slice k.pk.a k.pk.n k.pk.c)
 c3 : w.cell? ⟨b, 215, none⟩ = some (.int .u64 (k.port : Int))
 ow : ∃ v, w.cell? ⟨b, 216, none⟩ = some v /\ w.ownsRow W.heap.size 5 1 v m.out.length (BB m.out)
 ty : ∃ cs, w.heap[b]? = some (.cells cs 104 (0, 0))
 low : W.heap.size <= b
 bel : Below W.heap.size W w
 ok : m.ok
 byt : zdZ m.out
theorem VMAt.lt{W:World}{b:Nat}{k:VMK}{m:VMD}{w:World}(h:VMAt W b k m w):b<w.heap.size:=by
 obtain⟨cs,e⟩:=h.ty;exact(zoj.1 e).1
theorem VMAt.fz{W:World}{b:Nat}{k:VMK}{m:VMD}{w:World}(h:VMAt W b k m w)(o:Nat):w.frozen? ⟨b,o,none⟩=false:=by
 obtain⟨cs,e⟩:=h.ty;simp[World.frozen?,e]
theorem VMAt.step{W:World}{b:Nat}{k:VMK}{m:VMD}{w w':World}(h:VMAt W b k m w)(hb:Below w.heap.size w w'):VMAt W b k m w':=by
 obtain⟨a,c,h2⟩:=h.ow;obtain⟨cs,d⟩:=h.ty;exact⟨fun i hi=>za (h.rn i hi) hb,fun i hi=>za (h.rs i hi) hb,fun i hi=>za (h.sn i hi) hb,fun i hi=>za (h.ss i hi) hb,za h.c0 hb,za h.c1 hb,za h.c2 hb,za h.c3 hb,⟨a,za c hb,zZ h2 hb⟩,⟨cs,(hb.block b h.lt).trans d⟩,h.low,zh h.bel hb,h.ok,h.byt⟩
theorem zC{w:World}{b o p:Nat}{v u:Value}(a:o≠p)(h:w.cell? ⟨b,o,none⟩=some u):(w.setCell ⟨b,p,none⟩ v).cell? ⟨b,o,none⟩=some u:=
 (zou _ _ _ _ (by intro e;simp only[Addr.mk.injEq]at e;omega)).trans h
theorem zfl{w:World}{b p:Nat}{v u:Value}(h:w.cell? ⟨b,p,none⟩=some u):(w.setCell ⟨b,p,none⟩ v).cell? ⟨b,p,none⟩=some v:=zot _ _ _ h
theorem zcZ{w:World}{b p:Nat}{v:Value}{T:TypeId}(h:∃cs,w.heap[b]?=some (.cells cs T (0,0))):∃cs,(w.setCell ⟨b,p,none⟩ v).heap[b]?=some (.cells cs T (0,0)):=by
 obtain⟨cs,h⟩:=h;exact⟨cs.set! p v,by simp[World.setCell,Array.getElem?_modify,h]⟩
theorem zef{w:World}{B n:Nat}{u:Value}{xs:List Value}(h:w.ownsRow B 5 1 u n xs){k:Nat}(b:u.ownBlock=some k):B<=k/\∃a,w.heap[k]?=some (.cells a 5 (0,0)):=by
 rcases h.2 with⟨e,_⟩|⟨g,cap,a,e,hb,c,_⟩
 ·rw[e]at b;simp[Value.ownBlock]at b
 ·rw[e]at b;simp only[Value.ownBlock,zoo]at b;subst b;exact⟨hb,a,c⟩
theorem zhc{w:World}{b B n:Nat}{u:Value}{xs:List Value}(h:w.ownsRow B 5 1 u n xs){cs:Array Value}(d:w.heap[b]?=some (.cells cs 104 (0,0))):u.ownBlock≠some b:=fun e=>by
 obtain⟨_,c,a⟩:=zef h e;rw[d]at a;simp only[zoo,Obj.cells.injEq]at a;exact absurd a.2.1 (by decide)
theorem zkE{w:World}{b p B n:Nat}{v u:Value}{xs:List Value}(h:w.ownsRow B 5 1 u n xs)(a:∃cs,w.heap[b]?=some (.cells cs 104 (0,0))):(w.setCell ⟨b,p,none⟩ v).ownsRow B 5 1 u n xs:=by
 obtain⟨cs,a⟩:=a;exact ownsRow_setCell_other h (zhc h a) v
theorem VMAt.putR{W:World}{b:Nat}{k:VMK}{m:VMD}{w:World}(h:VMAt W b k m w){i n:Nat}(hi:i<10)(f:n<18446744073709551616):
 VMAt W b k (m.setR i n) ((w.setCell ⟨b,i*2,none⟩ (.int .u64 (n:Int))).setCell ⟨b,i*2+1,none⟩ (.bool true)):=by
 obtain⟨a,d,h2⟩:=h.ow;refine⟨fun j c=>?_,fun j c=>?_,fun j c=>?_,fun j c=>?_,?_,?_,?_,?_,⟨a,?_,?_⟩,zcZ (zcZ h.ty),h.low,(h.bel.setCell (p:=⟨b,i*2,none⟩) h.low _).setCell (p:=⟨b,i*2+1,none⟩) h.low _,h.ok.setR f,h.byt⟩
 ·by_cases e:j=i
  ·subst e;have:=zC (v:=.bool true) (show j*2≠j*2+1 by omega) (zfl (v:=.int .u64 (n:Int)) (h.rn j c))
   simpa[VMD.setR]using this
  ·have:=zC (v:=.bool true) (show j*2≠i*2+1 by omega) (zC (v:=.int .u64 (n:Int)) (show j*2≠i*2 by omega) (h.rn j c))
   simpa[VMD.setR,e]using this
 ·by_cases e:j=i
  ·subst e;have:=zfl (v:=.bool true) (zC (v:=.int .u64 (n:Int)) (show j*2+1≠j*2 by omega) (h.rs j c))
   simpa[VMD.setR]using this
  ·have:=zC (v:=.bool true) (show j*2+1≠i*2+1 by omega) (zC (v:=.int .u64 (n:Int)) (show j*2+1≠i*2 by omega) (h.rs j c))
   simpa[VMD.setR,e]using this
 ·exact zC (by omega) (zC (by omega) (h.sn j c))
 ·exact zC (by omega) (zC (by omega) (h.ss j c))
 ·exact zC (by omega) (zC (by omega) h.c0)
 ·exact zC (by omega) (zC (by omega) h.c1)
 ·exact zC (by omega) (zC (by omega) h.c2)
 ·exact zC (by omega) (zC (by omega) h.c3)
 ·exact zC (by omega) (zC (by omega) d)
 ·exact zkE (zkE h2 h.ty) (zcZ h.ty)
theorem VMAt.putS{W:World}{b:Nat}{k:VMK}{m:VMD}{w:World}(h:VMAt W b k m w){i n:Nat}{s:Bool}(hi:i<96)(f:n<18446744073709551616):
 VMAt W b k (m.setS i n s) ((w.setCell ⟨b,20+i*2,none⟩ (.int .u64 (n:Int))).setCell ⟨b,20+i*2+1,none⟩ (.bool s)):=by
 obtain⟨a,d,h2⟩:=h.ow;refine⟨fun j c=>?_,fun j c=>?_,fun j c=>?_,fun j c=>?_,?_,?_,?_,?_,⟨a,?_,?_⟩,zcZ (zcZ h.ty),h.low,(h.bel.setCell (p:=⟨b,20+i*2,none⟩) h.low _).setCell (p:=⟨b,20+i*2+1,none⟩) h.low _,h.ok.setS f,h.byt⟩
 ·exact zC (by omega) (zC (by omega) (h.rn j c))
 ·exact zC (by omega) (zC (by omega) (h.rs j c))
 ·by_cases e:j=i
  ·subst e;have:=zC (v:=.bool s) (show 20+j*2≠20+j*2+1 by omega) (zfl (v:=.int .u64 (n:Int)) (h.sn j c))
   simpa[VMD.setS]using this
  ·have:=zC (v:=.bool s) (show 20+j*2≠20+i*2+1 by omega) (zC (v:=.int .u64 (n:Int)) (show 20+j*2≠20+i*2 by omega) (h.sn j c))
   simpa[VMD.setS,e]using this
 ·by_cases e:j=i
  ·subst e;have:=zfl (v:=.bool s) (zC (v:=.int .u64 (n:Int)) (show 20+j*2+1≠20+j*2 by omega) (h.ss j c))
   simpa[VMD.setS]using this
  ·have:=zC (v:=.bool s) (show 20+j*2+1≠20+i*2+1 by omega) (zC (v:=.int .u64 (n:Int)) (show 20+j*2+1≠20+i*2 by omega) (h.ss j c))
   simpa[VMD.setS,e]using this
 ·exact zC (by omega) (zC (by omega) h.c0)
 ·exact zC (by omega) (zC (by omega) h.c1)
 ·exact zC (by omega) (zC (by omega) h.c2)
 ·exact zC (by omega) (zC (by omega) h.c3)
 ·exact zC (by omega) (zC (by omega) d)
 ·exact zkE (zkE h2 h.ty) (zcZ h.ty)
end Go.Proofs.YtdajaaondlekfaaGreat
