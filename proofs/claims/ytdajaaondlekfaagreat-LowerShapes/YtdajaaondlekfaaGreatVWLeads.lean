import Derived.Test.YtdajaaondlekfaaGreatG18
import Derived.Test.YtdajaaondlekfaaGreatG27
import Derived.Test.YtdajaaondlekfaaGreatVWBehind
import Derived.Test.YtdajaaondlekfaaGreatG12
import Derived.Test.YtdajaaondlekfaaGreatG2
import Derived.Test.YtdajaaondlekfaaGreatG17
set_option maxHeartbeats 16000000
set_option maxRecDepth 20000
set_option linter.unusedSimpArgs false
namespace Go.Proofs.YtdajaaondlekfaaGreat
open Go.RowKit
theorem zak:∀{k:Nat} {l:List Nat},l.Nodup->(∀j∈l,j<k)->l.length<=k
 |0,l,_,h=>by
  have:l=[]:=List.eq_nil_iff_forall_not_mem.2 fun j a=>absurd (h j a) (zoN _)
  rw[this];exact zos _
 |k+1,l,hn,h=>by
  by_cases b:k∈l
  ·have c:=zak (k:=k) (hn.erase k) fun j a=>by
    have h2:=hn.mem_erase_iff.1 a;have:=h j h2.2;have:=h2.1;omega
   have d:=List.length_erase_of_mem b;omega
  ·have c:=zak (k:=k) hn fun j a=>by
    have:=h j a;have:j≠k:=fun e=>b (e▸a)
    omega
   omega
theorem zkQ{L:List Nat}{k:Nat}(h:∀j∈L,j<k)(c:k<=100000:=by decide):∀n∈L.map (fun j:Nat=>(j:Int)),(Lit.int .i64 n).wf=true:=fun n a=>by
 obtain⟨j,b,rfl⟩:=zoJ.1 a;have:=h j b;simp[Lit.wf,IntKind.min,IntKind.max,IntKind.bits,IntKind.signed];omega
theorem zft{a wr b:World}{v:Value}{n:Nat}{xs:List Value}{T:TypeId}{o:Obj}(hb:Below a.heap.size a wr)(c:wr.ownsRow a.heap.size T 1 v n xs)(e:(wr.alloc o).grownBy b v.ownBlock):Below a.heap.size a b:=
 (ze hb).grown e (zoz hb.size (ze (zof _ _)).size) fun k d=>(c.lt k d).1
def ql(w:World)(L:List Nat)(e:Ending)(w':World):Prop:=∃a c,e=.returned (.slice a L.length c)/\Has .i64 w' a L.length (L.map (fun j:Nat=>(j:Int)))/\(∀g o q,a=some ⟨g,o,q⟩->w.heap.size<=g)/\Below w.heap.size w w'
theorem zl8{x:StateD}{k:Nat}(b:k<x.cs.length){c:CaseD}(a:x.cs[k]?=some c):(ye x.p)[k]?=some c.to:=by
 unfold ye;rw[zoL (by simpa[StateD.p]using b),zoy]
 show Option.map CaseD.to x.cs[k]?=_;rw[a];rfl
theorem ziJ(x:StateD):(ye x.p)[x.cs.length]?=some x.els:=by
 unfold ye;rw[zoO (by simp[StateD.p])]
 simp[StateD.p]
theorem zc3{n:Nat}{l:List Int}{k:Nat}{a:Int}(h:l[k]?=some a):xD n (l.take (k+1))=zdd n (xD n (l.take k)) a:=by
 unfold xD;rw[zoI,h];simp
theorem zdL{d:PlanD}{w:World}{i:Nat}{x:StateD}(hl:d.lie w)(hi:i<d.states.n)(hx:d.ss[i]?=some x)(a6:qJ d.p i x.p)(a9:d.states.n<=8):
 Calls Tryz.prog 65 #[d.v,.int .i64 i] w (ql w (xD d.states.n (ye x.p))):=by
 have en:d.p.ss.length=d.states.n:=by simp[PlanD.p,hl.ss.1]
 obtain⟨R,hW⟩:∃R,R=w.alloc (.cells #[.slice d.heads.a d.heads.n d.heads.c,.slice d.mta.a d.mta.n d.mta.c,.slice d.states.a d.states.n d.states.c,.slice d.acts.a d.acts.n d.acts.c,.slice d.tabs.a d.tabs.n d.tabs.c,.slice d.nodes.a d.nodes.n d.nodes.c,.slice d.out.a d.out.n d.out.c] 29):=⟨_,rfl⟩;obtain⟨s,es⟩:∃s,s=w.heap.size:=⟨_,rfl⟩;have a3:Below w.heap.size w R:=by rw[hW];exact ze (zof _ _)
 have a0:R.cell? ⟨s,2,none⟩=some (.slice d.states.a d.states.n d.states.c):=by rw[hW,es];exact(zod _ _ _ _ rfl).trans rfl
 obtain⟨sg,so,x',ea,a1,hp⟩:=zu (hl.step a3).ss hi;obtain rfl:x=x':=by rw[hx]at a1;exact zoq a1
 rw[ea]at a0;obtain⟨_,_,_,⟨k3,_⟩,⟨k4,_⟩,a5⟩:=hp;have b4:=a5.1;have few:x.cs.length<=4:=a6.few;obtain⟨ca,P⟩:∃ca,x.cases.a=ca:=⟨_,rfl⟩;rw[P]at k3;have b6:=hid P;have c4:=hid a5;have I:=hid a9;have b1:=hid b4;have a8:=hid a3;have EW:=hid hW;have ES:=hid es;have c8:=hid a0;have c1:=hid k3;have c2:=hid k4;have T:Hid (∀J∈ye x.p,J=1000\/J=1001\/(0<=J/\J<(d.states.n:Int))):=fun J c6=>by
  rcases a6.out J c6 with h|h|h
  ·exact .inl h
  ·exact .inr (.inl h)
  ·exact .inr (.inr (by omega))
 have d2:(i:Int)<(d.states.n:Int):=by omega
 have d0:(0:Int)<=(i:Int):=by omega
 have c9:x.cases.n<=4:=by omega
 have b5:Hid (ql w (xD d.states.n (ye x.p))=ql w (xD d.states.n ((ye x.p).take (x.cases.n+1)))):=by
  show _=_;rw[List.take_of_length_le (by unfold ye;simp[StateD.p];omega)]
 rw[b5.out];clear hl hi hx a6 a9 en hW es a3 a0 a1 ea a5 b4 few P k3 k4 b5;go_enter Tryz.func65,Tryz.ntmps65
 go_wp2;rw[<-EW.out,<-ES.out];clear EW ES;go_loopw [6,5,7] (fun q6 q5 _ wr=>∃(k:Nat) (L:List Nat) (la:Option Addr) (lc:Nat),k<=x.cases.n+1/\q6=.int .i64 k/\q5=.slice la L.length lc/\Hid (L=xD d.states.n ((ye x.p).take k))/\Hid (wr.ownsRow R.heap.size 3 1 (.slice la L.length lc) L.length (II (L.map (fun j:Nat=>(j:Int)))))/\Hid (Below R.heap.size R wr)) (fun q6 _ _ _=>x.cases.n+1-(intOf q6).toNat)
 case atStart=>exact⟨0,[],none,0,zon _,rfl,rfl,rfl,zoH _ _ _ _,zof _ _⟩
 case round=>
  obtain⟨k,L,la,lc,hk,rfl,rfl,HL,Q,K⟩:=hrel;have y2:=za c8.out K.out;have y3:=za c1.out K.out;have y4:=za c2.out K.out;have a4:Hid (L.length<=9):=by
   show L.length<=9;rw[HL.out];have h1:=jJ d.states.n ((ye x.p).take k);have h2:∀j∈xD d.states.n ((ye x.p).take k),j<9:=fun j O=>by obtain⟨_,_,_,h⟩:=mem_leadR.1 O;have:=I.out;omega
   exact zak h1 h2
  have r:Hid (∀w',Below R.heap.size R w'->∀y:Int,Calls Tryz.prog 61 #[.slice la L.length lc,.int .i64 y] wr fun e b8=>e=.returned (.bool (decide (y∈L.map (fun j:Nat=>(j:Int)))))/\b8=wr):=fun _ _ y=>zd7 la L.length lc _ y wr (by have:=a4.out;omega) (by
   have:=kJ Q.out (zkQ (k:=9) (fun j O=>by
    rw[HL.out]at O;obtain⟨_,_,_,h⟩:=mem_leadR.1 O;have:=I.out;omega))
   exact this)
  have C:Hid (∀t:Nat,∃U F S,(Builtin.append_ #[23,23] 23 #[.slice la L.length lc,.slice (some ⟨wr.heap.size,0,none⟩) 1 1]).run Tryz.prog (wr.alloc (.cells #[.int .i64 (t:Int)] 3))=.ok (.slice (some ⟨U,0,none⟩) (L.length+1) F) S/\S.ownsRow R.heap.size 3 1 (.slice (some ⟨U,0,none⟩) (L.length+1) F) (L.length+1) (II ((L++[t]).map (fun j:Nat=>(j:Int))))/\Below R.heap.size R S):=fun t=>by
   have b3:Below wr.heap.size wr (wr.alloc (.cells #[.int .i64 (t:Int)] 3)):=ze (zof _ _);obtain⟨U,F,S,A,E,b7,d1⟩:=xL (w:=wr.alloc (.cells #[.int .i64 (t:Int)] 3)) (ad:=⟨wr.heap.size,0,none⟩) (m:=1) (c:=1) (news:=[.int .i64 (t:Int)]) 23 Tryz.underlying23 Tryz.infoInt rfl (by decide) (ya Q.out b3) rfl zbH (by intro u hu;simp only[zoD,zoA,or_false]at hu;subst hu;rfl) (by decide) (by have:=a4.out;unfold maxLen;omega) (by have:=a4.out;omega) (by have:=K.out.size;have:=b3.size;omega)
   refine⟨U,F,S,A,?_,?_⟩
   ·rw[show II ((L++[t]).map (fun j:Nat=>(j:Int)))=II (L.map (fun j:Nat=>(j:Int)))++[.int .i64 (t:Int)]by simp[II]]
    exact E
   ·exact zft K.out Q.out b7
  have l:Hid (∀{J:Int},(ye x.p)[k]?=some J->(¬yZ d.states.n J<=d.states.n\/yZ d.states.n J∈L)->L=xD d.states.n ((ye x.p).take (k+1))):=fun{J} h1 h2=>by
   rw[zc3 h1,<-HL.out];unfold zdd;rw[if_neg (fun h=>h2.elim (fun a=>a h.1) (fun a=>h.2 a))]
  have D:Hid (∀{J:Int},(ye x.p)[k]?=some J->yZ d.states.n J<=d.states.n->yZ d.states.n J ∉ L->L++[yZ d.states.n J]=xD d.states.n ((ye x.p).take (k+1))):=fun{J} h1 h2 h3=>by
   rw[zc3 h1,<-HL.out];unfold zdd;rw[if_pos ⟨h2,h3⟩]
  by_cases d3:k<=x.cases.n
  ·have c0:(k:Int)<=(x.cases.n:Int):=by omega
   by_cases b2:k<x.cases.n
   ·have b9:(k:Int)<(x.cases.n:Int):=by omega
    obtain⟨cg,co,c,P,b0,a7⟩:=zu (c4.out.step CaseD.keeps K.out) b2;obtain rfl:ca=some ⟨cg,co,none⟩:=by rw[<-b6.out];exact P
    have q2:=a7.2.2.1;have M:=zl8 (by rw[b1.out];exact b2) b0
    have f:=T.out c.to (zol M);have l:=hid (l.out M);have D:=hid (D.out M);generalize c.to=J at*;clear a7 b0 M P;rcases f with f|f|f
    ·
     subst f;have N:yZ d.states.n 1000=d.states.n:=by unfold yZ;rw[if_pos rfl]
     by_cases b:d.states.n∈L
     ·have G:=hid (l.out (.inr (by rw[N];exact b)))
      have B:=hid (r.out wr K.out (d.states.n:Int));rw[zoY (show(d.states.n:Int)∈L.map (fun j:Nat=>(j:Int))from zoJ.2 ⟨_,b,rfl⟩)]at B
      clear C l r b;go_wp2_with fail
      refine B.out.mono ?_;rintro e W ⟨rfl,rfl⟩;clear B;go_wp2;go_roundw
      case rel=>exact⟨k+1,_,_,_,by omega,by go_num,rfl,G,Q,K⟩
      case measure=>simp[intOf];omega
     ·have B:=hid (r.out wr K.out (d.states.n:Int));rw[zoX (show¬(d.states.n:Int)∈L.map (fun j:Nat=>(j:Int))from fun h=>b (by obtain⟨j,O,e⟩:=zoJ.1 h;have Y:j=d.states.n:=(by omega);exact Y▸O))]at B
      obtain⟨U,F,S,A,E,H⟩:=C.out d.states.n;have G:=hid (D.out (by rw[N];exact zos _) (by rw[N];exact b))
      rw[N]at G;have V:=hid E;have X:=hid H;clear C l r D b E H;go_wp2_with fail
      refine B.out.mono ?_;rintro e W ⟨rfl,rfl⟩;clear B;go_wp2_with (at_builtin;refine yg rfl _ _ rfl rfl rfl A ?_)
      go_roundw
      case rel=>exact⟨k+1,L++[d.states.n],_,_,by omega,by go_num,by rw[zor,List.length_singleton],G,by rw[zor,List.length_singleton];exact V,X⟩
      case measure=>simp[intOf];omega
    ·
     subst f;have G:=hid (l.out (.inl (by unfold yZ;rw[if_neg (by decide)];show¬1001<=d.states.n;have:=I.out;omega)))
     have Z:¬(1001:Int)<=(d.states.n:Int):=by have:=I.out;omega
     clear C l r;go_wp2;go_roundw
     case rel=>exact⟨k+1,_,_,_,by omega,by go_num,rfl,G,Q,K⟩
     case measure=>simp[intOf];omega
    ·
     obtain⟨t,rfl⟩:∃t:Nat,J=(t:Int):=⟨J.toNat,by omega⟩
     have c3:((t:Int)==1000)=false:=by rw[beq_eq_false_iff_ne];have:=I.out;omega
     have N:yZ d.states.n (t:Int)=t:=by unfold yZ;rw[if_neg (by have:=I.out;omega)];exact zov t
     have c5:(t:Int)<=(d.states.n:Int):=by omega
     have a2:=hid f;clear f;by_cases b:t∈L
     ·have G:=hid (l.out (.inr (by rw[N];exact b)))
      have B:=hid (r.out wr K.out (t:Int));rw[zoY (show(t:Int)∈L.map (fun j:Nat=>(j:Int))from zoJ.2 ⟨_,b,rfl⟩)]at B
      clear C l r b;go_wp2_with fail
      refine B.out.mono ?_;rintro e W ⟨rfl,rfl⟩;clear B;go_wp2;go_roundw
      case rel=>exact⟨k+1,_,_,_,by omega,by go_num,rfl,G,Q,K⟩
      case measure=>simp[intOf];omega
     ·have B:=hid (r.out wr K.out (t:Int));rw[zoX (show¬(t:Int)∈L.map (fun j:Nat=>(j:Int))from fun h=>b (by obtain⟨j,O,e⟩:=zoJ.1 h;have Y:j=t:=(by omega);exact Y▸O))]at B
      obtain⟨U,F,S,A,E,H⟩:=C.out t;have G:=hid (D.out (by rw[N];have:=a2.out;omega) (by rw[N];exact b))
      rw[N]at G;have V:=hid E;have X:=hid H;clear C l r D b E H;go_wp2_with fail
      refine B.out.mono ?_;rintro e W ⟨rfl,rfl⟩;clear B;go_wp2_with (at_builtin;refine yg rfl _ _ rfl rfl rfl A ?_)
      go_roundw
      case rel=>exact⟨k+1,L++[t],_,_,by omega,by go_num,by rw[zor,List.length_singleton],G,by rw[zor,List.length_singleton];exact V,X⟩
      case measure=>simp[intOf];omega
   ·have b9:¬(k:Int)<(x.cases.n:Int):=by omega
    have M:(ye x.p)[k]?=some x.els:=by have:=ziJ x;rw[b1.out]at this;rw[show k=x.cases.n by omega];exact this
    have f:=T.out x.els (zol M);have l:=hid (l.out M);have D:=hid (D.out M);generalize x.els=J at*;clear M;rcases f with f|f|f
    ·
     subst f;have N:yZ d.states.n 1000=d.states.n:=by unfold yZ;rw[if_pos rfl]
     by_cases b:d.states.n∈L
     ·have G:=hid (l.out (.inr (by rw[N];exact b)))
      have B:=hid (r.out wr K.out (d.states.n:Int));rw[zoY (show(d.states.n:Int)∈L.map (fun j:Nat=>(j:Int))from zoJ.2 ⟨_,b,rfl⟩)]at B
      clear C l r b;go_wp2_with fail
      refine B.out.mono ?_;rintro e W ⟨rfl,rfl⟩;clear B;go_wp2;go_roundw
      case rel=>exact⟨k+1,_,_,_,by omega,by go_num,rfl,G,Q,K⟩
      case measure=>simp[intOf];omega
     ·have B:=hid (r.out wr K.out (d.states.n:Int));rw[zoX (show¬(d.states.n:Int)∈L.map (fun j:Nat=>(j:Int))from fun h=>b (by obtain⟨j,O,e⟩:=zoJ.1 h;have Y:j=d.states.n:=(by omega);exact Y▸O))]at B
      obtain⟨U,F,S,A,E,H⟩:=C.out d.states.n;have G:=hid (D.out (by rw[N];exact zos _) (by rw[N];exact b))
      rw[N]at G;have V:=hid E;have X:=hid H;clear C l r D b E H;go_wp2_with fail
      refine B.out.mono ?_;rintro e W ⟨rfl,rfl⟩;clear B;go_wp2_with (at_builtin;refine yg rfl _ _ rfl rfl rfl A ?_)
      go_roundw
      case rel=>exact⟨k+1,L++[d.states.n],_,_,by omega,by go_num,by rw[zor,List.length_singleton],G,by rw[zor,List.length_singleton];exact V,X⟩
      case measure=>simp[intOf];omega
    ·
     subst f;have G:=hid (l.out (.inl (by unfold yZ;rw[if_neg (by decide)];show¬1001<=d.states.n;have:=I.out;omega)))
     have Z:¬(1001:Int)<=(d.states.n:Int):=by have:=I.out;omega
     clear C l r;go_wp2;go_roundw
     case rel=>exact⟨k+1,_,_,_,by omega,by go_num,rfl,G,Q,K⟩
     case measure=>simp[intOf];omega
    ·
     obtain⟨t,rfl⟩:∃t:Nat,J=(t:Int):=⟨J.toNat,by omega⟩
     have c3:((t:Int)==1000)=false:=by rw[beq_eq_false_iff_ne];have:=I.out;omega
     have N:yZ d.states.n (t:Int)=t:=by unfold yZ;rw[if_neg (by have:=I.out;omega)];exact zov t
     have c5:(t:Int)<=(d.states.n:Int):=by omega
     have a2:=hid f;clear f;by_cases b:t∈L
     ·have G:=hid (l.out (.inr (by rw[N];exact b)))
      have B:=hid (r.out wr K.out (t:Int));rw[zoY (show(t:Int)∈L.map (fun j:Nat=>(j:Int))from zoJ.2 ⟨_,b,rfl⟩)]at B
      clear C l r b;go_wp2_with fail
      refine B.out.mono ?_;rintro e W ⟨rfl,rfl⟩;clear B;go_wp2;go_roundw
      case rel=>exact⟨k+1,_,_,_,by omega,by go_num,rfl,G,Q,K⟩
      case measure=>simp[intOf];omega
     ·have B:=hid (r.out wr K.out (t:Int));rw[zoX (show¬(t:Int)∈L.map (fun j:Nat=>(j:Int))from fun h=>b (by obtain⟨j,O,e⟩:=zoJ.1 h;have Y:j=t:=(by omega);exact Y▸O))]at B
      obtain⟨U,F,S,A,E,H⟩:=C.out t;have G:=hid (D.out (by rw[N];have:=a2.out;omega) (by rw[N];exact b))
      rw[N]at G;have V:=hid E;have X:=hid H;clear C l r D b E H;go_wp2_with fail
      refine B.out.mono ?_;rintro e W ⟨rfl,rfl⟩;clear B;go_wp2_with (at_builtin;refine yg rfl _ _ rfl rfl rfl A ?_)
      go_roundw
      case rel=>exact⟨k+1,L++[t],_,_,by omega,by go_num,by rw[zor,List.length_singleton],G,by rw[zor,List.length_singleton];exact V,X⟩
      case measure=>simp[intOf];omega
  ·have c0:¬(k:Int)<=(x.cases.n:Int):=by omega
   have ek:k=x.cases.n+1:=by omega
   have HE:Hid (ql w (xD d.states.n ((ye x.p).take (x.cases.n+1))) (.returned (.slice la L.length lc)) wr):=by
    show ql _ _ _ _;rw[<-ek,<-HL.out];exact⟨la,lc,rfl,kJ Q.out (zkQ (k:=9) (fun j O=>by
     rw[HL.out]at O;obtain⟨_,_,_,h⟩:=mem_leadR.1 O;have:=I.out;omega)),fun g o q e=>by
      subst e;exact zoz a8.out.size (Q.out.lt g rfl).1,zh a8.out K.out⟩
   clear C l D r Q K HL ek;go_wp2;go_ret;exact HE.out
end Go.Proofs.YtdajaaondlekfaaGreat
