import Derived.Test.YtbmcgbmegcpgnaaGreatG12
import Derived.Test.YtbmcgbmegcpgnaaGreatG11
import Derived.Test.YtbmcgbmegcpgnaaGreatVZWr7
import Derived.Test.YtbmcgbmegcpgnaaGreatVZWr8
import Derived.Test.YtbmcgbmegcpgnaaGreatG5
import Derived.Test.YtbmcgbmegcpgnaaGreatG1
set_option maxHeartbeats 8000000
set_option maxRecDepth 20000
set_option linter.unusedSimpArgs false
namespace Go.Proofs.YtbmcgbmegcpgnaaGreat
open Go.RowKit
theorem CasesV.keep{w a w2:World}{b:List (Int × Int × Int)}{v:Value}(h:CasesV w b a v)(hb:∀g,w.heap.size<=g->w2.heap[g]?=a.heap[g]?\/a.heap.size<=g):CasesV w b w2 v:=by
 obtain⟨g,e,c,d,hw⟩:=h;have f:g<a.heap.size:=d.lt;exact⟨g,e,c,d.blk ((hb g c).resolve_right (by omega)),hw⟩
theorem CasesV.low{w w0 a:World}{b:List (Int × Int × Int)}{v:Value}(h:CasesV w b a v)(hb:w0.heap.size<=w.heap.size):CasesV w0 b a v:=by
 obtain⟨g,e,d,c,hw⟩:=h;exact⟨g,e,zoz hb d,c,hw⟩
theorem CasesV.sl{w d:World}{a:List (Int × Int × Int)}{v:Value}(h:CasesV w a d v):∃b l c,v=.slice b l c:=by
 obtain⟨g,e,_⟩:=h;exact⟨_,_,_,e⟩
theorem Tryz.infoStateR:(Tryz.prog.info? 51).map (fun i=>(i.zero,i.size,i.bytes))=some (some (.agg #[.int .i64 0,.int .i64 0,.int .i64 0,.slice none 0 0,.int .i64 0]),5,56):=by kernel_rfl
def zqp(y:StateX × Value):List Value:=[.int .i64 y.1.head,.int .i64 y.1.on.1,.int .i64 y.1.on.2,y.2,.int .i64 y.1.els]
def StateP(w:World)(y:StateX × Value)(w':World):Prop:=CasesV w y.1.cs w' y.2/\(Lit.int .i64 y.1.head).wf=true/\(Lit.int .i64 y.1.on.1).wf=true/\(Lit.int .i64 y.1.on.2).wf=true/\(Lit.int .i64 y.1.els).wf=true
theorem StateP.keep{w a w2:World}{y:StateX × Value}(h:StateP w y a)(hb:∀g,w.heap.size<=g->w2.heap[g]?=a.heap[g]?\/a.heap.size<=g):StateP w y w2:=by
 obtain⟨c,b⟩:=h;exact⟨c.keep hb,b⟩
theorem StateP.low{w w0 a:World}{y:StateX × Value}(h:StateP w y a)(hb:w0.heap.size<=w.heap.size):StateP w0 y a:=by
 obtain⟨c,b⟩:=h;exact⟨c.low hb,b⟩
def StatesV(w:World)(a:List StateX)(w':World)(v:Value):Prop:=∃g,∃b:List (StateX × Value),v=.slice (some ⟨g,0,none⟩) a.length a.length/\w.heap.size<=g/\b.map (·.1)=a/\RowK zqp 5 51 a.length w' g b/\∀y∈b,StateP w y w'
theorem zrZ{p:Nat}{a:Option Addr}{c:Nat}{zs:List Int}{t:Nat}{w:World}(h:Rd p a c zs t w):
 Calls Tryz.prog 116 #[.pointer (some ⟨p,0,none⟩),.func (.func 117) #[.pointer (some ⟨p,0,none⟩)] #[]] w (ka p a c zs (StatesV w) (yz zs (zk0 zs) t) w):=by
 have HP:=hid (zp2 h);clear h;go_enter Tryz.func116,Tryz.ntmps116
 go_wp2_with fail
 refine HP.out.mono ?_;rintro e X ⟨hn,hr⟩;cases S:zpl zs t with
 |error e=>
  have e1:yz zs (zk0 zs) t=.error e:=by unfold yz;rw[S]
  rw[S]at hr;obtain rfl:=hr;exact yl (P:=Tryz.prog) (fn:=Tryz.f116) (by rw[e1];exact⟨hn,rfl⟩) rfl
 |ok x=>
  obtain⟨m,t1⟩:=x;have e1:yz zs (zk0 zs) t=xh (zk0 zs) m t1:=by unfold yz;rw[S]
  rw[S]at hr;obtain⟨_,rfl,⟨rfl,hm⟩,G⟩:=hr;obtain⟨i0,hi,V,U,T⟩:=info_parts Tryz.infoStateR;have J:m<=100000:=zoz hm G.few;have a9:∀W:World,(Instr.makeSlice 24 (.int .i64 (m:Int)) (.int .i64 (m:Int))).run Tryz.prog W=.ok (.slice (some ⟨W.heap.size,0,none⟩) m m) (W.alloc (.cells (madeCells #[.int .i64 0,.int .i64 0,.int .i64 0,.slice none 0 0,.int .i64 0] (m*5)) 51)):=fun W=>by
   have h:=run_make (P:=Tryz.prog) W 24 51 i0 _ Tryz.underlying24 hi V .i64 .i64 (m:Int) (m:Int) (by omega) (by omega) (by rw[T];omega) (by omega)
   rw[show((m:Int)).toNat=m by omega,U]at h
   exact h
  obtain⟨s,hW⟩:∃s,s=X.alloc (.cells (madeCells #[.int .i64 0,.int .i64 0,.int .i64 0,.slice none 0 0,.int .i64 0] (m*5)) 51):=⟨_,rfl⟩;obtain⟨g,hg⟩:∃g,g=X.heap.size:=⟨_,rfl⟩;have b2:Below X.heap.size X s:=by rw[hW];exact ze (zof _ _)
  have R0:RowK zqp 5 51 m s g []:=by
   rw[hW,hg];exact RowK.new zqp 5 _ m X _ (by simp[madeCells])
  have O:=hid (G.step b2);have I:=hid (hn.trans (Rn.of b2));have L:p<g:=by rw[hg];exact zog _ _ G.c0
  have r:Hid (w.heap.size<=g):=by show w.heap.size<=g;rw[hg];exact hn.size
  have B:Hid (p<g):=L;have a5:Hid (w.heap.size<=s.heap.size):=I.out.size;have b1:Hid (g≠p):=by show g≠p;omega
  have d:=hid R0;have F:=hid (R0.lt);have a4:Hid (p<s.heap.size):=Nat.lt_trans L R0.lt;have EW:=hid hW;have EG:=hid hg;have E1:=hid e1;have a8:=hid J;clear HP S G hn e1 hm hi V U T hW hg b2 R0 L J;go_wp2;rw[<-EW.out,<-EG.out];clear EW EG a9;go_loopw [12,6] (fun q _ wr=>∃(i u:Nat) (A:List (StateX × Value)),q=.int .i64 (i:Int)/\Hid (i<=m)/\Hid (A.length=i)/\Hid (∀y∈A,StateP s y wr)/\Hid (s.heap.size<=wr.heap.size)/\Hid (xk (A.map (·.1)) (xh (zk0 zs) (m-i) u)=yz zs (zk0 zs) t)/\Hid (Rd p a c zs u wr)/\Hid (Rn p w wr)/\Hid (RowK zqp 5 51 m wr g A)) (fun q _ _=>m-(intOf q).toNat)
  case atStart=>
   refine⟨0,t1,[],rfl,zon _,rfl,fun x hx=>(by simp at hx),zos _,?_,O,I,d⟩
   show xk [] (xh (zk0 zs) m t1)=_;rw[E1.out];cases xh (zk0 zs) m t1 with
   |error e=>rfl
   |ok y=>rfl
  case round=>
   obtain⟨i,u,A,rfl,HI,Y,H,HS,HL,O,I,d⟩:=hrel;by_cases a2:i<m
   ·have b3:(i:Int)<(m:Int):=by omega
    have HF:=hid (zu4 O.out);go_wp2_with fail
    refine HF.out.mono ?_;rintro e M ⟨n,f⟩;have N:=HL.out;rw[show m-i=(m-i-1)+1 by omega]at N
    cases Z:zk0 zs u with
    |error e=>
     rw[zo5 _ _ _ _ e Z]at N;rw[Z]at f;obtain rfl:=f;exact yl (P:=Tryz.prog) (fn:=Tryz.f116) (by rw[<-N];exact⟨I.out.trans n,rfl⟩) rfl
    |ok y=>
     obtain⟨x,u'⟩:=y;rw[zo4 _ _ _ _ x u' Z]at N;rw[Z]at f;obtain⟨_,rfl,⟨b4,rfl,C⟩,f⟩:=f;have C:StateP wr (x,b4) M:=C;obtain⟨j,k,c0,rfl⟩:=C.1.sl;have b:=d.out.rn n b1.out;have E:=Y.out;have hb:i*5+5<=m*5:=by omega
     obtain⟨o0,k0⟩:=b.some (o:=i*5) (by omega)
     obtain⟨o1,k1⟩:=b.some (o:=i*5+1) (by omega)
     obtain⟨o2,k2⟩:=b.some (o:=i*5+2) (by omega)
     obtain⟨o3,k3⟩:=b.some (o:=i*5+3) (by omega)
     obtain⟨o4,k4⟩:=b.some (o:=i*5+4) (by omega)
     have z0:=b.fz (i*5);have z1:=b.fz (i*5+1);have z2:=b.fz (i*5+2);have z3:=b.fz (i*5+3);have z4:=b.fz (i*5+4);have kl:=b.lt;have p1:=b.put (fun _=>rfl) (i*5) (.int .i64 x.head) (by omega) (by omega)
     have p2:=p1.1.put (fun _=>rfl) (i*5+1) (.int .i64 x.on.1) (by omega) (by omega)
     have p3:=p2.1.put (fun _=>rfl) (i*5+2) (.int .i64 x.on.2) (by omega) (by omega)
     have p4:=p3.1.put (fun _=>rfl) (i*5+3) (.slice j k c0) (by omega) (by omega)
     have p5:=p4.1.put (fun _=>rfl) (i*5+4) (.int .i64 x.els) (by omega) (by omega)
     have a7:=hid (((((f.put_far B.out (i*5) (.int .i64 x.head)).put_far B.out (i*5+1) (.int .i64 x.on.1)).put_far B.out (i*5+2) (.int .i64 x.on.2)).put_far B.out (i*5+3) (.slice j k c0)).put_far B.out (i*5+4) (.int .i64 x.els));have a3:=hid ((((((I.out.trans n).put_new r.out (i*5) (.int .i64 x.head)).put_new r.out (i*5+1) (.int .i64 x.on.1)).put_new r.out (i*5+2) (.int .i64 x.on.2)).put_new r.out (i*5+3) (.slice j k c0)).put_new r.out (i*5+4) (.int .i64 x.els));have K:Hid (RowK zqp 5 51 m (((((M.setCell ⟨g,i*5,none⟩ (.int .i64 x.head)).setCell ⟨g,i*5+1,none⟩ (.int .i64 x.on.1)).setCell ⟨g,i*5+2,none⟩ (.int .i64 x.on.2)).setCell ⟨g,i*5+3,none⟩ (.slice j k c0)).setCell ⟨g,i*5+4,none⟩ (.int .i64 x.els)) g (A++[(x,(Value.slice j k c0))])):=by
      refine p5.1.more (x,(Value.slice j k c0)) fun l u D=>?_
      rw[E];match l,D with
      |0,D=>cases D;exact((zou _ _ _ _ (by intro e;simp only[Addr.mk.injEq]at e;omega)).trans ((zou _ _ _ _ (by intro e;simp only[Addr.mk.injEq]at e;omega)).trans ((zou _ _ _ _ (by intro e;simp only[Addr.mk.injEq]at e;omega)).trans ((zou _ _ _ _ (by intro e;simp only[Addr.mk.injEq]at e;omega)).trans p1.2))))
      |1,D=>cases D;exact((zou _ _ _ _ (by intro e;simp only[Addr.mk.injEq]at e;omega)).trans ((zou _ _ _ _ (by intro e;simp only[Addr.mk.injEq]at e;omega)).trans ((zou _ _ _ _ (by intro e;simp only[Addr.mk.injEq]at e;omega)).trans p2.2)))
      |2,D=>cases D;exact((zou _ _ _ _ (by intro e;simp only[Addr.mk.injEq]at e;omega)).trans ((zou _ _ _ _ (by intro e;simp only[Addr.mk.injEq]at e;omega)).trans p3.2))
      |3,D=>cases D;exact((zou _ _ _ _ (by intro e;simp only[Addr.mk.injEq]at e;omega)).trans p4.2)
      |4,D=>cases D;exact p5.2
     have a1:Hid (s.heap.size<=(((((M.setCell ⟨g,i*5,none⟩ (.int .i64 x.head)).setCell ⟨g,i*5+1,none⟩ (.int .i64 x.on.1)).setCell ⟨g,i*5+2,none⟩ (.int .i64 x.on.2)).setCell ⟨g,i*5+3,none⟩ (.slice j k c0)).setCell ⟨g,i*5+4,none⟩ (.int .i64 x.els)).heap.size):=by
      have h1:s.heap.size<=M.heap.size:=zoz HS.out n.size;show s.heap.size<=(((((M.setCell ⟨g,i*5,none⟩ (.int .i64 x.head)).setCell ⟨g,i*5+1,none⟩ (.int .i64 x.on.1)).setCell ⟨g,i*5+2,none⟩ (.int .i64 x.on.2)).setCell ⟨g,i*5+3,none⟩ (.slice j k c0)).setCell ⟨g,i*5+4,none⟩ (.int .i64 x.els)).heap.size;simpa[World.setCell]using h1
     have Q:Hid (∀y∈A++[(x,(Value.slice j k c0))],StateP s y (((((M.setCell ⟨g,i*5,none⟩ (.int .i64 x.head)).setCell ⟨g,i*5+1,none⟩ (.int .i64 x.on.1)).setCell ⟨g,i*5+2,none⟩ (.int .i64 x.on.2)).setCell ⟨g,i*5+3,none⟩ (.slice j k c0)).setCell ⟨g,i*5+4,none⟩ (.int .i64 x.els))):=fun y hy=>by
      have HH:StateP s y M:=by
       rcases List.mem_append.1 hy with h|h
       ·exact(H.out y h).keep (ko n a4.out)
       ·simp only[zoD,zoA,or_false]at h;rw[h];exact C.low HS.out
      exact(((((HH.keep (zl F.out (i*5) (.int .i64 x.head))).keep (zl F.out (i*5+1) (.int .i64 x.on.1))).keep (zl F.out (i*5+2) (.int .i64 x.on.2))).keep (zl F.out (i*5+3) (.slice j k c0))).keep (zl F.out (i*5+4) (.int .i64 x.els)))
     have a0:Hid (xk ((A++[(x,(Value.slice j k c0))]).map (·.1)) (xh (zk0 zs) (m-(i+1)) u')=yz zs (zk0 zs) t):=by
      show _=_;rw[<-N,show m-(i+1)=m-i-1 by omega,List.map_append];rfl
     have a6:Hid ((A++[(x,(Value.slice j k c0))]).length=i+1):=by show _=_;rw[List.length_append,Y.out];rfl
     have b5:=a8.out;clear HF n f N Z b HL Y H d O I C p1 p2 p3 p4 p5 E HS;go_wp2;go_roundw
     case rel=>exact⟨i+1,u',A++[(x,(Value.slice j k c0))],zhs (by omega),hid a2,a6,Q,a1,a0,a7,a3,K⟩
     case measure=>simp[intOf];omega
   ·have b3:¬(i:Int)<(m:Int):=by omega
    have e3:m-i=0:=by omega
    have HE:Hid (ka p a c zs (StatesV w) (yz zs (zk0 zs) t) w (.returned (.slice (some ⟨g,0,none⟩) m m)) wr):=by
     show ka _ _ _ _ _ _ _ _ _;rw[<-HL.out,e3];have E:A.length=m:=by have h1:=Y.out;have h2:=HI.out;omega
     have R:=d.out;refine⟨I.out,_,rfl,⟨g,A,?_,r.out,?_,?_,?_⟩,O.out⟩
     ·rw[List.append_nil,zoE,E]
     ·rw[List.append_nil]
     ·rw[List.append_nil,zoE,E];exact R
     ·exact fun y hy=>(H.out y hy).low a5.out
    clear HL Y H d O I;go_wp2;go_ret;exact HE.out
theorem HeadsV.keep{w a w2:World}{b:List (List Int)}{v:Value}(h:HeadsV w b a v)(hb:∀g,w.heap.size<=g->w2.heap[g]?=a.heap[g]?\/a.heap.size<=g):HeadsV w b w2 v:=by
 obtain⟨g,i,e,c,j,d,hw⟩:=h;have k:g<a.heap.size:=d.lt;exact⟨g,i,e,c,j,d.blk ((hb g c).resolve_right (by omega)),fun y f=>(hw y f).keep hb⟩
theorem HeadsV.low{w w0 b:World}{a:List (List Int)}{v:Value}(h:HeadsV w a b v)(hb:w0.heap.size<=w.heap.size):HeadsV w0 a b v:=by
 obtain⟨g,d,e,f,i,j,hw⟩:=h;exact⟨g,d,e,zoz hb f,i,j,fun y c=>(hw y c).low hb⟩
theorem StatesV.keep{w a w2:World}{b:List (StateX)}{v:Value}(h:StatesV w b a v)(hb:∀g,w.heap.size<=g->w2.heap[g]?=a.heap[g]?\/a.heap.size<=g):StatesV w b w2 v:=by
 obtain⟨g,i,e,c,j,d,hw⟩:=h;have k:g<a.heap.size:=d.lt;exact⟨g,i,e,c,j,d.blk ((hb g c).resolve_right (by omega)),fun y f=>(hw y f).keep hb⟩
theorem StatesV.low{w w0 b:World}{a:List (StateX)}{v:Value}(h:StatesV w a b v)(hb:w0.heap.size<=w.heap.size):StatesV w0 a b v:=by
 obtain⟨g,d,e,f,i,j,hw⟩:=h;exact⟨g,d,e,zoz hb f,i,j,fun y c=>(hw y c).low hb⟩
theorem ActsV.keep{w a w2:World}{b:List (ActX)}{v:Value}(h:ActsV w b a v)(hb:∀g,w.heap.size<=g->w2.heap[g]?=a.heap[g]?\/a.heap.size<=g):ActsV w b w2 v:=by
 obtain⟨g,i,e,c,j,d,hw⟩:=h;have k:g<a.heap.size:=d.lt;exact⟨g,i,e,c,j,d.blk ((hb g c).resolve_right (by omega)),fun y f=>(hw y f).keep hb⟩
theorem ActsV.low{w w0 b:World}{a:List (ActX)}{v:Value}(h:ActsV w a b v)(hb:w0.heap.size<=w.heap.size):ActsV w0 a b v:=by
 obtain⟨g,d,e,f,i,j,hw⟩:=h;exact⟨g,d,e,zoz hb f,i,j,fun y c=>(hw y c).low hb⟩
theorem TabsV.keep{w a w2:World}{b:List (TabX)}{v:Value}(h:TabsV w b a v)(hb:∀g,w.heap.size<=g->w2.heap[g]?=a.heap[g]?\/a.heap.size<=g):TabsV w b w2 v:=by
 obtain⟨g,i,e,c,j,d,hw⟩:=h;have k:g<a.heap.size:=d.lt;exact⟨g,i,e,c,j,d.blk ((hb g c).resolve_right (by omega)),fun y f=>(hw y f).keep hb⟩
theorem TabsV.low{w w0 b:World}{a:List (TabX)}{v:Value}(h:TabsV w a b v)(hb:w0.heap.size<=w.heap.size):TabsV w0 a b v:=by
 obtain⟨g,d,e,f,i,j,hw⟩:=h;exact⟨g,d,e,zoz hb f,i,j,fun y c=>(hw y c).low hb⟩
theorem NodesV.keep{w a w2:World}{b:List (NodeX)}{v:Value}(h:NodesV w b a v)(hb:∀g,w.heap.size<=g->w2.heap[g]?=a.heap[g]?\/a.heap.size<=g):NodesV w b w2 v:=by
 obtain⟨g,i,e,c,j,d,hw⟩:=h;have k:g<a.heap.size:=d.lt;exact⟨g,i,e,c,j,d.blk ((hb g c).resolve_right (by omega)),fun y f=>(hw y f).keep hb⟩
theorem NodesV.low{w w0 b:World}{a:List (NodeX)}{v:Value}(h:NodesV w a b v)(hb:w0.heap.size<=w.heap.size):NodesV w0 a b v:=by
 obtain⟨g,d,e,f,i,j,hw⟩:=h;exact⟨g,d,e,zoz hb f,i,j,fun y c=>(hw y c).low hb⟩
structure PlanX where
 heads : List (List Int)
 mt : List (Int)
 states : List (StateX)
 acts : List (ActX)
 tabs : List (TabX)
 nodes : List (NodeX)
 out : List (Int)
def zpq(zs:List Int)(t:Nat):Except (Int × Int) (PlanX × Nat):=y7 (yz zs (yz zs (ke zs)) t) fun f u1=>y7 (yz zs (ke zs) u1) fun c u2=>y7 (yz zs (zk0 zs) u2) fun d u3=>y7 (yz zs (zpT zs) u3) fun e u4=>y7 (yz zs (zpz zs) u4) fun g u5=>y7 (yz zs (zo7 zs) u5) fun a u6=>y7 (yz zs (ke zs) u6) fun b u7=>.ok (⟨f,c,d,e,g,a,b⟩,u7)
def PlanV(w:World)(x:PlanX)(w':World)(v:Value):Prop:=∃v1 v2 v3 v4 v5 v6 a,v=.agg #[v1,v2,v3,v4,v5,v6,a]/\HeadsV w x.heads w' v1/\IntsV w x.mt w' v2/\StatesV w x.states w' v3/\ActsV w x.acts w' v4/\TabsV w x.tabs w' v5/\NodesV w x.nodes w' v6/\IntsV w x.out w' a
theorem zvp{p:Nat}{a:Option Addr}{c:Nat}{zs:List Int}{t:Nat}{w:World}(h:Rd p a c zs t w):
 Calls Tryz.prog 73 #[.pointer (some ⟨p,0,none⟩)] w (ka p a c zs (PlanV w) (zpq zs t) w):=by
 obtain⟨g,eW⟩:∃g,g=w.alloc (.cells #[.slice none 0 0,.slice none 0 0,.slice none 0 0,.slice none 0 0,.slice none 0 0,.slice none 0 0,.slice none 0 0] 29):=⟨_,rfl⟩;obtain⟨bx,ebx⟩:∃b,b=w.heap.size:=⟨_,rfl⟩;have a4:p<w.heap.size:=zog _ _ h.c0;have Z:Hid (RSt p a c zs 29 bx w t [.slice none 0 0,.slice none 0 0,.slice none 0 0,.slice none 0 0,.slice none 0 0,.slice none 0 0,.slice none 0 0] g):=by rw[eW,ebx];exact RSt.start h _ _
 have d:Hid (bx<g.heap.size/\p<g.heap.size/\w.heap.size<=g.heap.size):=⟨Z.out.box.lt,zom a4 Z.out.rn.size,Z.out.rn.size⟩;have Y:Hid (g.heap.size<=g.heap.size):=zos _;have a6:=hid (zsj Z.out.rd);have EW:=hid eW;have EB:=hid ebx;clear h eW ebx a4;go_enter Tryz.func73,Tryz.ntmps73
 go_wp2_with fail
 rw[<-EW.out,<-EB.out];clear EW EB;refine a6.out.mono ?_;rintro e w1 ⟨k,l⟩;cases r:yz zs (yz zs (ke zs)) t with
 |error e=>
  rw[r]at l;obtain rfl:=l;exact yl (P:=Tryz.prog) (fn:=Tryz.f73) (by unfold zpq;rw[r];exact⟨Z.out.rn.trans k,rfl⟩) rfl
 |ok y=>
  obtain⟨f,u1⟩:=y;rw[r]at l;obtain⟨_,rfl,⟨A,b8,rfl,u⟩,l⟩:=l;have u:HeadsV g f w1 (.slice (some ⟨A,0,none⟩) f.length f.length):=⟨A,b8,rfl,u⟩;have T:=Z.out.read k l;have B:=hid (u.low (w0:=g) Y.out);have N:=T.box.cell (i:=0) rfl;have z0:=T.box.fz 0;have O:=T.box.lt;obtain⟨V1,eV⟩:∃W,W=w1.setCell ⟨bx,0,none⟩ (.slice (some ⟨A,0,none⟩) f.length f.length):=⟨_,rfl⟩;have a2:Hid (g.heap.size<=V1.heap.size):=by
   show g.heap.size<=V1.heap.size;rw[eV,zow];exact zoz Y.out k.size
  have S1:Hid (RSt p a c zs 29 bx w u1 [.slice (some ⟨A,0,none⟩) f.length f.length,.slice none 0 0,.slice none 0 0,.slice none 0 0,.slice none 0 0,.slice none 0 0,.slice none 0 0] V1):=by rw[eV];exact T.put 0 _ rfl (fun n h=>by cases h)
  have B:Hid (HeadsV g f V1 (.slice (some ⟨A,0,none⟩) f.length f.length)):=by rw[eV];exact B.out.keep (zl d.out.1 _ _)
  have R:=hid r;have I:=hid eV;have b7:=hid (zp8 S1.out.rd);clear a6 k l r T eV Z u Y;go_wp2_with fail
  rw[<-I.out];clear I N z0 O;refine b7.out.mono ?_;rintro e w2 ⟨k,l⟩;cases r:yz zs (ke zs) u1 with
  |error e=>
   rw[r]at l;obtain rfl:=l;exact yl (P:=Tryz.prog) (fn:=Tryz.f73) (by unfold zpq;rw[R.out];unfold y7;dsimp only;rw[r];exact⟨S1.out.rn.trans k,rfl⟩) rfl
  |ok y=>
   obtain⟨j,u2⟩:=y;rw[r]at l;obtain⟨_,rfl,⟨C,rfl,u⟩,l⟩:=l;have u:IntsV V1 j w2 (.slice (some ⟨C,0,none⟩) j.length j.length):=⟨C,rfl,u⟩;have T:=S1.out.read k l;have B:=hid (B.out.keep (ko k d.out.2.1));have E:=hid (u.low (w0:=g) a2.out);have N:=T.box.cell (i:=1) rfl;have z0:=T.box.fz 1;have O:=T.box.lt;obtain⟨V2,eV⟩:∃W,W=w2.setCell ⟨bx,1,none⟩ (.slice (some ⟨C,0,none⟩) j.length j.length):=⟨_,rfl⟩;have X:Hid (g.heap.size<=V2.heap.size):=by
    show g.heap.size<=V2.heap.size;rw[eV,zow];exact zoz a2.out k.size
   have S2:Hid (RSt p a c zs 29 bx w u2 [.slice (some ⟨A,0,none⟩) f.length f.length,.slice (some ⟨C,0,none⟩) j.length j.length,.slice none 0 0,.slice none 0 0,.slice none 0 0,.slice none 0 0,.slice none 0 0] V2):=by rw[eV];exact T.put 1 _ rfl (fun n h=>by cases h)
   have B:Hid (HeadsV g f V2 (.slice (some ⟨A,0,none⟩) f.length f.length)):=by rw[eV];exact B.out.keep (zl d.out.1 _ _)
   have E:Hid (IntsV g j V2 (.slice (some ⟨C,0,none⟩) j.length j.length)):=by rw[eV];exact E.out.keep (zl d.out.1 _ _)
   have Q2:=hid r;have I:=hid eV;have a9:=hid (zrZ S2.out.rd);clear b7 k l r T eV S1 u a2;go_wp2_with fail
   rw[<-I.out];clear I N z0 O;refine a9.out.mono ?_;rintro e w3 ⟨k,l⟩;cases r:yz zs (zk0 zs) u2 with
   |error e=>
    rw[r]at l;obtain rfl:=l;exact yl (P:=Tryz.prog) (fn:=Tryz.f73) (by unfold zpq;rw[R.out];unfold y7;dsimp only;rw[Q2.out];dsimp only;rw[r];exact⟨S2.out.rn.trans k,rfl⟩) rfl
   |ok y=>
    obtain⟨m,u3⟩:=y;rw[r]at l;obtain⟨_,rfl,⟨D,c1,rfl,u⟩,l⟩:=l;have u:StatesV V2 m w3 (.slice (some ⟨D,0,none⟩) m.length m.length):=⟨D,c1,rfl,u⟩;have T:=S2.out.read k l;have B:=hid (B.out.keep (ko k d.out.2.1));have E:=hid (E.out.keep (ko k d.out.2.1));have H:=hid (u.low (w0:=g) X.out);have N:=T.box.cell (i:=2) rfl;have z0:=T.box.fz 2;have O:=T.box.lt;obtain⟨V3,eV⟩:∃W,W=w3.setCell ⟨bx,2,none⟩ (.slice (some ⟨D,0,none⟩) m.length m.length):=⟨_,rfl⟩;have a1:Hid (g.heap.size<=V3.heap.size):=by
     show g.heap.size<=V3.heap.size;rw[eV,zow];exact zoz X.out k.size
    have S3:Hid (RSt p a c zs 29 bx w u3 [.slice (some ⟨A,0,none⟩) f.length f.length,.slice (some ⟨C,0,none⟩) j.length j.length,.slice (some ⟨D,0,none⟩) m.length m.length,.slice none 0 0,.slice none 0 0,.slice none 0 0,.slice none 0 0] V3):=by rw[eV];exact T.put 2 _ rfl (fun n h=>by cases h)
    have B:Hid (HeadsV g f V3 (.slice (some ⟨A,0,none⟩) f.length f.length)):=by rw[eV];exact B.out.keep (zl d.out.1 _ _)
    have E:Hid (IntsV g j V3 (.slice (some ⟨C,0,none⟩) j.length j.length)):=by rw[eV];exact E.out.keep (zl d.out.1 _ _)
    have H:Hid (StatesV g m V3 (.slice (some ⟨D,0,none⟩) m.length m.length)):=by rw[eV];exact H.out.keep (zl d.out.1 _ _)
    have Q3:=hid r;have I:=hid eV;have a7:=hid (zsX S3.out.rd);clear a9 k l r T eV S2 u X;go_wp2_with fail
    rw[<-I.out];clear I N z0 O;refine a7.out.mono ?_;rintro e w4 ⟨k,l⟩;cases r:yz zs (zpT zs) u3 with
    |error e=>
     rw[r]at l;obtain rfl:=l;exact yl (P:=Tryz.prog) (fn:=Tryz.f73) (by unfold zpq;rw[R.out];unfold y7;dsimp only;rw[Q2.out];dsimp only;rw[Q3.out];dsimp only;rw[r];exact⟨S3.out.rn.trans k,rfl⟩) rfl
    |ok y=>
     obtain⟨o,u4⟩:=y;rw[r]at l;obtain⟨_,rfl,⟨F,c2,rfl,u⟩,l⟩:=l;have u:ActsV V3 o w4 (.slice (some ⟨F,0,none⟩) o.length o.length):=⟨F,c2,rfl,u⟩;have T:=S3.out.read k l;have B:=hid (B.out.keep (ko k d.out.2.1));have E:=hid (E.out.keep (ko k d.out.2.1));have H:=hid (H.out.keep (ko k d.out.2.1));have M:=hid (u.low (w0:=g) a1.out);have N:=T.box.cell (i:=3) rfl;have z0:=T.box.fz 3;have O:=T.box.lt;obtain⟨V4,eV⟩:∃W,W=w4.setCell ⟨bx,3,none⟩ (.slice (some ⟨F,0,none⟩) o.length o.length):=⟨_,rfl⟩;have U:Hid (g.heap.size<=V4.heap.size):=by
      show g.heap.size<=V4.heap.size;rw[eV,zow];exact zoz a1.out k.size
     have S4:Hid (RSt p a c zs 29 bx w u4 [.slice (some ⟨A,0,none⟩) f.length f.length,.slice (some ⟨C,0,none⟩) j.length j.length,.slice (some ⟨D,0,none⟩) m.length m.length,.slice (some ⟨F,0,none⟩) o.length o.length,.slice none 0 0,.slice none 0 0,.slice none 0 0] V4):=by rw[eV];exact T.put 3 _ rfl (fun n h=>by cases h)
     have B:Hid (HeadsV g f V4 (.slice (some ⟨A,0,none⟩) f.length f.length)):=by rw[eV];exact B.out.keep (zl d.out.1 _ _)
     have E:Hid (IntsV g j V4 (.slice (some ⟨C,0,none⟩) j.length j.length)):=by rw[eV];exact E.out.keep (zl d.out.1 _ _)
     have H:Hid (StatesV g m V4 (.slice (some ⟨D,0,none⟩) m.length m.length)):=by rw[eV];exact H.out.keep (zl d.out.1 _ _)
     have M:Hid (ActsV g o V4 (.slice (some ⟨F,0,none⟩) o.length o.length)):=by rw[eV];exact M.out.keep (zl d.out.1 _ _)
     have Q4:=hid r;have I:=hid eV;have a8:=hid (zsW S4.out.rd);clear a7 k l r T eV S3 u a1;go_wp2_with fail
     rw[<-I.out];clear I N z0 O;refine a8.out.mono ?_;rintro e w5 ⟨k,l⟩;cases r:yz zs (zpz zs) u4 with
     |error e=>
      rw[r]at l;obtain rfl:=l;exact yl (P:=Tryz.prog) (fn:=Tryz.f73) (by unfold zpq;rw[R.out];unfold y7;dsimp only;rw[Q2.out];dsimp only;rw[Q3.out];dsimp only;rw[Q4.out];dsimp only;rw[r];exact⟨S4.out.rn.trans k,rfl⟩) rfl
     |ok y=>
      obtain⟨q,u5⟩:=y;rw[r]at l;obtain⟨_,rfl,⟨G,b9,rfl,u⟩,l⟩:=l;have u:TabsV V4 q w5 (.slice (some ⟨G,0,none⟩) q.length q.length):=⟨G,b9,rfl,u⟩;have T:=S4.out.read k l;have B:=hid (B.out.keep (ko k d.out.2.1));have E:=hid (E.out.keep (ko k d.out.2.1));have H:=hid (H.out.keep (ko k d.out.2.1));have M:=hid (M.out.keep (ko k d.out.2.1));have Q:=hid (u.low (w0:=g) U.out);have N:=T.box.cell (i:=4) rfl;have z0:=T.box.fz 4;have O:=T.box.lt;obtain⟨V5,eV⟩:∃W,W=w5.setCell ⟨bx,4,none⟩ (.slice (some ⟨G,0,none⟩) q.length q.length):=⟨_,rfl⟩;have V:Hid (g.heap.size<=V5.heap.size):=by
       show g.heap.size<=V5.heap.size;rw[eV,zow];exact zoz U.out k.size
      have S5:Hid (RSt p a c zs 29 bx w u5 [.slice (some ⟨A,0,none⟩) f.length f.length,.slice (some ⟨C,0,none⟩) j.length j.length,.slice (some ⟨D,0,none⟩) m.length m.length,.slice (some ⟨F,0,none⟩) o.length o.length,.slice (some ⟨G,0,none⟩) q.length q.length,.slice none 0 0,.slice none 0 0] V5):=by rw[eV];exact T.put 4 _ rfl (fun n h=>by cases h)
      have B:Hid (HeadsV g f V5 (.slice (some ⟨A,0,none⟩) f.length f.length)):=by rw[eV];exact B.out.keep (zl d.out.1 _ _)
      have E:Hid (IntsV g j V5 (.slice (some ⟨C,0,none⟩) j.length j.length)):=by rw[eV];exact E.out.keep (zl d.out.1 _ _)
      have H:Hid (StatesV g m V5 (.slice (some ⟨D,0,none⟩) m.length m.length)):=by rw[eV];exact H.out.keep (zl d.out.1 _ _)
      have M:Hid (ActsV g o V5 (.slice (some ⟨F,0,none⟩) o.length o.length)):=by rw[eV];exact M.out.keep (zl d.out.1 _ _)
      have Q:Hid (TabsV g q V5 (.slice (some ⟨G,0,none⟩) q.length q.length)):=by rw[eV];exact Q.out.keep (zl d.out.1 _ _)
      have Q5:=hid r;have I:=hid eV;have a3:=hid (zsh S5.out.rd);clear a8 k l r T eV S4 u U;go_wp2_with fail
      rw[<-I.out];clear I N z0 O;refine a3.out.mono ?_;rintro e w6 ⟨k,l⟩;cases r:yz zs (zo7 zs) u5 with
      |error e=>
       rw[r]at l;obtain rfl:=l;exact yl (P:=Tryz.prog) (fn:=Tryz.f73) (by unfold zpq;rw[R.out];unfold y7;dsimp only;rw[Q2.out];dsimp only;rw[Q3.out];dsimp only;rw[Q4.out];dsimp only;rw[Q5.out];dsimp only;rw[r];exact⟨S5.out.rn.trans k,rfl⟩) rfl
      |ok y=>
       obtain⟨s,u6⟩:=y;rw[r]at l;obtain⟨_,rfl,⟨J,c3,rfl,u⟩,l⟩:=l;have u:NodesV V5 s w6 (.slice (some ⟨J,0,none⟩) s.length s.length):=⟨J,c3,rfl,u⟩;have T:=S5.out.read k l;have B:=hid (B.out.keep (ko k d.out.2.1));have E:=hid (E.out.keep (ko k d.out.2.1));have H:=hid (H.out.keep (ko k d.out.2.1));have M:=hid (M.out.keep (ko k d.out.2.1));have Q:=hid (Q.out.keep (ko k d.out.2.1));have S:=hid (u.low (w0:=g) V.out);have N:=T.box.cell (i:=5) rfl;have z0:=T.box.fz 5;have O:=T.box.lt;obtain⟨V6,eV⟩:∃W,W=w6.setCell ⟨bx,5,none⟩ (.slice (some ⟨J,0,none⟩) s.length s.length):=⟨_,rfl⟩;have a0:Hid (g.heap.size<=V6.heap.size):=by
        show g.heap.size<=V6.heap.size;rw[eV,zow];exact zoz V.out k.size
       have S6:Hid (RSt p a c zs 29 bx w u6 [.slice (some ⟨A,0,none⟩) f.length f.length,.slice (some ⟨C,0,none⟩) j.length j.length,.slice (some ⟨D,0,none⟩) m.length m.length,.slice (some ⟨F,0,none⟩) o.length o.length,.slice (some ⟨G,0,none⟩) q.length q.length,.slice (some ⟨J,0,none⟩) s.length s.length,.slice none 0 0] V6):=by rw[eV];exact T.put 5 _ rfl (fun n h=>by cases h)
       have B:Hid (HeadsV g f V6 (.slice (some ⟨A,0,none⟩) f.length f.length)):=by rw[eV];exact B.out.keep (zl d.out.1 _ _)
       have E:Hid (IntsV g j V6 (.slice (some ⟨C,0,none⟩) j.length j.length)):=by rw[eV];exact E.out.keep (zl d.out.1 _ _)
       have H:Hid (StatesV g m V6 (.slice (some ⟨D,0,none⟩) m.length m.length)):=by rw[eV];exact H.out.keep (zl d.out.1 _ _)
       have M:Hid (ActsV g o V6 (.slice (some ⟨F,0,none⟩) o.length o.length)):=by rw[eV];exact M.out.keep (zl d.out.1 _ _)
       have Q:Hid (TabsV g q V6 (.slice (some ⟨G,0,none⟩) q.length q.length)):=by rw[eV];exact Q.out.keep (zl d.out.1 _ _)
       have S:Hid (NodesV g s V6 (.slice (some ⟨J,0,none⟩) s.length s.length)):=by rw[eV];exact S.out.keep (zl d.out.1 _ _)
       have Q6:=hid r;have I:=hid eV;have a5:=hid (zp8 S6.out.rd);clear a3 k l r T eV S5 u V;go_wp2_with fail
       rw[<-I.out];clear I N z0 O;refine a5.out.mono ?_;rintro e w7 ⟨k,l⟩;cases r:yz zs (ke zs) u6 with
       |error e=>
        rw[r]at l;obtain rfl:=l;exact yl (P:=Tryz.prog) (fn:=Tryz.f73) (by unfold zpq;rw[R.out];unfold y7;dsimp only;rw[Q2.out];dsimp only;rw[Q3.out];dsimp only;rw[Q4.out];dsimp only;rw[Q5.out];dsimp only;rw[Q6.out];dsimp only;rw[r];exact⟨S6.out.rn.trans k,rfl⟩) rfl
       |ok y=>
        obtain⟨x,u7⟩:=y;rw[r]at l;obtain⟨_,rfl,⟨L,rfl,u⟩,l⟩:=l;have u:IntsV V6 x w7 (.slice (some ⟨L,0,none⟩) x.length x.length):=⟨L,rfl,u⟩;have T:=S6.out.read k l;have B:=hid (B.out.keep (ko k d.out.2.1));have E:=hid (E.out.keep (ko k d.out.2.1));have H:=hid (H.out.keep (ko k d.out.2.1));have M:=hid (M.out.keep (ko k d.out.2.1));have Q:=hid (Q.out.keep (ko k d.out.2.1));have S:=hid (S.out.keep (ko k d.out.2.1));have K7:=hid (u.low (w0:=g) a0.out);have N:=T.box.cell (i:=6) rfl;have z0:=T.box.fz 6;have O:=T.box.lt;obtain⟨V7,eV⟩:∃W,W=w7.setCell ⟨bx,6,none⟩ (.slice (some ⟨L,0,none⟩) x.length x.length):=⟨_,rfl⟩;have c4:Hid (g.heap.size<=V7.heap.size):=by
         show g.heap.size<=V7.heap.size;rw[eV,zow];exact zoz a0.out k.size
        have K:Hid (RSt p a c zs 29 bx w u7 [.slice (some ⟨A,0,none⟩) f.length f.length,.slice (some ⟨C,0,none⟩) j.length j.length,.slice (some ⟨D,0,none⟩) m.length m.length,.slice (some ⟨F,0,none⟩) o.length o.length,.slice (some ⟨G,0,none⟩) q.length q.length,.slice (some ⟨J,0,none⟩) s.length s.length,.slice (some ⟨L,0,none⟩) x.length x.length] V7):=by rw[eV];exact T.put 6 _ rfl (fun n h=>by cases h)
        have B:Hid (HeadsV g f V7 (.slice (some ⟨A,0,none⟩) f.length f.length)):=by rw[eV];exact B.out.keep (zl d.out.1 _ _)
        have E:Hid (IntsV g j V7 (.slice (some ⟨C,0,none⟩) j.length j.length)):=by rw[eV];exact E.out.keep (zl d.out.1 _ _)
        have H:Hid (StatesV g m V7 (.slice (some ⟨D,0,none⟩) m.length m.length)):=by rw[eV];exact H.out.keep (zl d.out.1 _ _)
        have M:Hid (ActsV g o V7 (.slice (some ⟨F,0,none⟩) o.length o.length)):=by rw[eV];exact M.out.keep (zl d.out.1 _ _)
        have Q:Hid (TabsV g q V7 (.slice (some ⟨G,0,none⟩) q.length q.length)):=by rw[eV];exact Q.out.keep (zl d.out.1 _ _)
        have S:Hid (NodesV g s V7 (.slice (some ⟨J,0,none⟩) s.length s.length)):=by rw[eV];exact S.out.keep (zl d.out.1 _ _)
        have K7:Hid (IntsV g x V7 (.slice (some ⟨L,0,none⟩) x.length x.length)):=by rw[eV];exact K7.out.keep (zl d.out.1 _ _)
        have Q7:=hid r;have I:=hid eV;clear a5 k l r T eV S6 u a0;go_upto_region 8 with fail
        rw[<-I.out];clear I N z0 O;have S9:=(((((((K.out.put 0 (.slice (some ⟨A,0,none⟩) f.length f.length) rfl (fun n h=>by cases h)).put 1 (.slice (some ⟨C,0,none⟩) j.length j.length) rfl (fun n h=>by cases h)).put 2 (.slice (some ⟨D,0,none⟩) m.length m.length) rfl (fun n h=>by cases h)).put 3 (.slice (some ⟨F,0,none⟩) o.length o.length) rfl (fun n h=>by cases h)).put 4 (.slice (some ⟨G,0,none⟩) q.length q.length) rfl (fun n h=>by cases h)).put 5 (.slice (some ⟨J,0,none⟩) s.length s.length) rfl (fun n h=>by cases h)).put 6 (.slice (some ⟨L,0,none⟩) x.length x.length) rfl (fun n h=>by cases h))
        have HE:Hid (ka p a c zs (PlanV w) (zpq zs t) w (.returned (.agg #[.slice (some ⟨A,0,none⟩) f.length f.length,.slice (some ⟨C,0,none⟩) j.length j.length,.slice (some ⟨D,0,none⟩) m.length m.length,.slice (some ⟨F,0,none⟩) o.length o.length,.slice (some ⟨G,0,none⟩) q.length q.length,.slice (some ⟨J,0,none⟩) s.length s.length,.slice (some ⟨L,0,none⟩) x.length x.length])) (((((((V7.setCell ⟨bx,0,none⟩ (.slice (some ⟨A,0,none⟩) f.length f.length)).setCell ⟨bx,1,none⟩ (.slice (some ⟨C,0,none⟩) j.length j.length)).setCell ⟨bx,2,none⟩ (.slice (some ⟨D,0,none⟩) m.length m.length)).setCell ⟨bx,3,none⟩ (.slice (some ⟨F,0,none⟩) o.length o.length)).setCell ⟨bx,4,none⟩ (.slice (some ⟨G,0,none⟩) q.length q.length)).setCell ⟨bx,5,none⟩ (.slice (some ⟨J,0,none⟩) s.length s.length)).setCell ⟨bx,6,none⟩ (.slice (some ⟨L,0,none⟩) x.length x.length))):=by
         show ka _ _ _ _ _ _ _ _ _;unfold zpq;rw[R.out];unfold y7;dsimp only;rw[Q2.out];dsimp only;rw[Q3.out];dsimp only;rw[Q4.out];dsimp only;rw[Q5.out];dsimp only;rw[Q6.out];dsimp only;rw[Q7.out];dsimp only;exact⟨S9.rn,_,rfl,⟨_,_,_,_,_,_,_,rfl,((((((((B.out.keep (zl d.out.1 0 (.slice (some ⟨A,0,none⟩) f.length f.length))).keep (zl d.out.1 1 (.slice (some ⟨C,0,none⟩) j.length j.length))).keep (zl d.out.1 2 (.slice (some ⟨D,0,none⟩) m.length m.length))).keep (zl d.out.1 3 (.slice (some ⟨F,0,none⟩) o.length o.length))).keep (zl d.out.1 4 (.slice (some ⟨G,0,none⟩) q.length q.length))).keep (zl d.out.1 5 (.slice (some ⟨J,0,none⟩) s.length s.length))).keep (zl d.out.1 6 (.slice (some ⟨L,0,none⟩) x.length x.length))).low d.out.2.2),((((((((E.out.keep (zl d.out.1 0 (.slice (some ⟨A,0,none⟩) f.length f.length))).keep (zl d.out.1 1 (.slice (some ⟨C,0,none⟩) j.length j.length))).keep (zl d.out.1 2 (.slice (some ⟨D,0,none⟩) m.length m.length))).keep (zl d.out.1 3 (.slice (some ⟨F,0,none⟩) o.length o.length))).keep (zl d.out.1 4 (.slice (some ⟨G,0,none⟩) q.length q.length))).keep (zl d.out.1 5 (.slice (some ⟨J,0,none⟩) s.length s.length))).keep (zl d.out.1 6 (.slice (some ⟨L,0,none⟩) x.length x.length))).low d.out.2.2),((((((((H.out.keep (zl d.out.1 0 (.slice (some ⟨A,0,none⟩) f.length f.length))).keep (zl d.out.1 1 (.slice (some ⟨C,0,none⟩) j.length j.length))).keep (zl d.out.1 2 (.slice (some ⟨D,0,none⟩) m.length m.length))).keep (zl d.out.1 3 (.slice (some ⟨F,0,none⟩) o.length o.length))).keep (zl d.out.1 4 (.slice (some ⟨G,0,none⟩) q.length q.length))).keep (zl d.out.1 5 (.slice (some ⟨J,0,none⟩) s.length s.length))).keep (zl d.out.1 6 (.slice (some ⟨L,0,none⟩) x.length x.length))).low d.out.2.2),((((((((M.out.keep (zl d.out.1 0 (.slice (some ⟨A,0,none⟩) f.length f.length))).keep (zl d.out.1 1 (.slice (some ⟨C,0,none⟩) j.length j.length))).keep (zl d.out.1 2 (.slice (some ⟨D,0,none⟩) m.length m.length))).keep (zl d.out.1 3 (.slice (some ⟨F,0,none⟩) o.length o.length))).keep (zl d.out.1 4 (.slice (some ⟨G,0,none⟩) q.length q.length))).keep (zl d.out.1 5 (.slice (some ⟨J,0,none⟩) s.length s.length))).keep (zl d.out.1 6 (.slice (some ⟨L,0,none⟩) x.length x.length))).low d.out.2.2),((((((((Q.out.keep (zl d.out.1 0 (.slice (some ⟨A,0,none⟩) f.length f.length))).keep (zl d.out.1 1 (.slice (some ⟨C,0,none⟩) j.length j.length))).keep (zl d.out.1 2 (.slice (some ⟨D,0,none⟩) m.length m.length))).keep (zl d.out.1 3 (.slice (some ⟨F,0,none⟩) o.length o.length))).keep (zl d.out.1 4 (.slice (some ⟨G,0,none⟩) q.length q.length))).keep (zl d.out.1 5 (.slice (some ⟨J,0,none⟩) s.length s.length))).keep (zl d.out.1 6 (.slice (some ⟨L,0,none⟩) x.length x.length))).low d.out.2.2),((((((((S.out.keep (zl d.out.1 0 (.slice (some ⟨A,0,none⟩) f.length f.length))).keep (zl d.out.1 1 (.slice (some ⟨C,0,none⟩) j.length j.length))).keep (zl d.out.1 2 (.slice (some ⟨D,0,none⟩) m.length m.length))).keep (zl d.out.1 3 (.slice (some ⟨F,0,none⟩) o.length o.length))).keep (zl d.out.1 4 (.slice (some ⟨G,0,none⟩) q.length q.length))).keep (zl d.out.1 5 (.slice (some ⟨J,0,none⟩) s.length s.length))).keep (zl d.out.1 6 (.slice (some ⟨L,0,none⟩) x.length x.length))).low d.out.2.2),((((((((K7.out.keep (zl d.out.1 0 (.slice (some ⟨A,0,none⟩) f.length f.length))).keep (zl d.out.1 1 (.slice (some ⟨C,0,none⟩) j.length j.length))).keep (zl d.out.1 2 (.slice (some ⟨D,0,none⟩) m.length m.length))).keep (zl d.out.1 3 (.slice (some ⟨F,0,none⟩) o.length o.length))).keep (zl d.out.1 4 (.slice (some ⟨G,0,none⟩) q.length q.length))).keep (zl d.out.1 5 (.slice (some ⟨J,0,none⟩) s.length s.length))).keep (zl d.out.1 6 (.slice (some ⟨L,0,none⟩) x.length x.length))).low d.out.2.2)⟩,S9.rd⟩
        have N:=K.out.box.cell (i:=0) rfl;have z0:=K.out.box.fz 0;have b1:=K.out.box.cell (i:=1) rfl;have z1:=K.out.box.fz 1;have b2:=K.out.box.cell (i:=2) rfl;have z2:=K.out.box.fz 2;have b3:=K.out.box.cell (i:=3) rfl;have z3:=K.out.box.fz 3;have b4:=K.out.box.cell (i:=4) rfl;have z4:=K.out.box.fz 4;have b5:=K.out.box.cell (i:=5) rfl;have z5:=K.out.box.fz 5;have b6:=K.out.box.cell (i:=6) rfl;have z6:=K.out.box.fz 6;have O:=K.out.box.lt;clear K S9 B R E Q2 H Q3 M Q4 Q Q5 S Q6 K7 Q7;go_wp2;exact bodyPost_ret (v:=.agg #[.slice (some ⟨A,0,none⟩) f.length f.length,.slice (some ⟨C,0,none⟩) j.length j.length,.slice (some ⟨D,0,none⟩) m.length m.length,.slice (some ⟨F,0,none⟩) o.length o.length,.slice (some ⟨G,0,none⟩) q.length q.length,.slice (some ⟨J,0,none⟩) s.length s.length,.slice (some ⟨L,0,none⟩) x.length x.length]) (by simp[results,Tryz.results73,go_sem, *]) rfl HE.out
theorem zr8{w:World}{a b:Option Addr}{m:Nat}{ps:List Int}(c d:Nat)(A:m<=100000)(ha:Has .u64 w a m ps)(hb:Has .u64 w b m ps):
 Calls Tryz.prog 82 #[.slice a m c,.slice b m d] w fun e w'=>e=.returned (.bool true)/\∃s,w'=w.drewN s:=by
 have o:((m:Int) !=(m:Int))=false:=by simp
 go_enter Tryz.func82,Tryz.ntmps82
 go_wp2;go_loopw [5] (fun q wr=>∃k:Nat,k<=m/\q=.int .i64 k/\Hid (∃s,wr=w.drewN s)) (fun q _=>m-(intOf q).toNat)
 case atStart=>exact⟨0,zon _,rfl,0,rfl⟩
 case round=>
  obtain⟨k,y,rfl,i⟩:=hrel;by_cases h:k<m
  ·obtain⟨r,o1,rfl,j,f⟩:=ha.some (by omega)
   obtain⟨n,o2,rfl,l,g⟩:=hb.some (by omega)
   have q1:wr.cell? ⟨r,o1+k,none⟩=some (.int .u64 (ps.getD k 0)):=by obtain⟨s,e⟩:=i;rw[e];exact f k h
   have q2:wr.cell? ⟨n,o2+k,none⟩=some (.int .u64 (ps.getD k 0)):=by obtain⟨s,e⟩:=i;rw[e];exact g k h
   clear f g j l ha hb;have t:(k:Int)<(m:Int):=by omega
   simp only[zoi]at q1 q2;generalize ps[k]?.getD 0=x at*;have u:(x !=x)=false:=by simp
   go_wp2;go_big_quiet (fail)
   go_wp2;go_roundw
   case rel=>exact⟨k+1,by omega,by go_num,by obtain⟨s,e⟩:=i;rw[e];exact⟨_,World.drewN_drewN _ _ _⟩⟩
   case measure=>simp[intOf];omega
  ·go_wp2;go_ret;exact⟨rfl,i⟩
theorem zta{w:World}{a b:Option Addr}{m:Nat}{ps:List Int}(c d:Nat)(g:m<=100000)(ha:Has .u64 w a m ps)(hb:Has .u64 w b m ps):Calls Tryz.prog 82 #[.slice a m c,.slice b m d] w (Yes w):=
 (zr8 c d g ha hb).mono fun _ _ ⟨f,s,e⟩=>⟨f,by rw[e];exact⟨rfl,rfl,rfl,zos _,fun _ _=>rfl⟩⟩
theorem zrj(x y:TabD)(w:World)(hx:QRow 2 RefD.lie w x.keys x.ks)(hy:QRow 2 RefD.lie w y.keys y.ks)(o:Has .i64 w x.acts.a x.acts.n x.al)(g:Has .i64 w y.acts.a y.acts.n y.al)(r:Has .u64 w x.args.a x.args.n x.zs)(i:Has .u64 w y.args.a y.args.n y.zs)(he:x.p=y.p)(hm:x.keys.n<=10000/\x.acts.n<=10000/\x.args.n<=10000):
 Calls Tryz.prog 37 #[.agg #[.int .i64 x.kind,.slice x.keys.a x.keys.n x.keys.c,.slice x.acts.a x.acts.n x.acts.c,.int .i64 x.cap,.int .i64 x.dflt,.slice x.args.a x.args.n x.args.c],.agg #[.int .i64 y.kind,.slice y.keys.a y.keys.n y.keys.c,.slice y.acts.a y.acts.n y.acts.c,.int .i64 y.cap,.int .i64 y.dflt,.slice y.args.a y.args.n y.args.c]] w (Yes w):=by
 simp only[TabD.p,PTab.mk.injEq]at he;obtain⟨S,q1,q2,q3,q4,q5⟩:=he;have Q:y.keys.n=x.keys.n:=by rw[<-hx.1,<-hy.1,q1]
 have P:y.acts.n=x.acts.n:=by rw[<-o.1,<-g.1,q2]
 have O:y.args.n=x.args.n:=by rw[<-r.1,<-i.1,q5]
 obtain⟨d,hW⟩:∃d,d=(w.alloc (.cells #[.int .i64 x.kind,.slice x.keys.a x.keys.n x.keys.c,.slice x.acts.a x.acts.n x.acts.c,.int .i64 x.cap,.int .i64 x.dflt,.slice x.args.a x.args.n x.args.c] 63)).alloc (.cells #[.int .i64 y.kind,.slice y.keys.a y.keys.n y.keys.c,.slice y.acts.a y.acts.n y.acts.c,.int .i64 y.cap,.int .i64 y.dflt,.slice y.args.a y.args.n y.args.c] 63):=⟨_,rfl⟩;obtain⟨j,h0⟩:∃j,j=w.heap.size:=⟨_,rfl⟩;obtain⟨l,h1⟩:∃l,l=w.heap.size+1:=⟨_,rfl⟩;have z0:d.cell? ⟨j,0,none⟩=some (.int .i64 x.kind):=by rw[hW,h0];exact(zoe _ _ _ (by simp)).trans ((zod _ _ _ _ rfl).trans rfl)
 have z1:d.cell? ⟨j,1,none⟩=some (.slice x.keys.a x.keys.n x.keys.c):=by rw[hW,h0];exact(zoe _ _ _ (by simp)).trans ((zod _ _ _ _ rfl).trans rfl)
 have K:d.cell? ⟨j,2,none⟩=some (.slice x.acts.a x.acts.n x.acts.c):=by rw[hW,h0];exact(zoe _ _ _ (by simp)).trans ((zod _ _ _ _ rfl).trans rfl)
 have E:d.cell? ⟨j,3,none⟩=some (.int .i64 x.cap):=by rw[hW,h0];exact(zoe _ _ _ (by simp)).trans ((zod _ _ _ _ rfl).trans rfl)
 have J:d.cell? ⟨j,4,none⟩=some (.int .i64 x.dflt):=by rw[hW,h0];exact(zoe _ _ _ (by simp)).trans ((zod _ _ _ _ rfl).trans rfl)
 have F:d.cell? ⟨j,5,none⟩=some (.slice x.args.a x.args.n x.args.c):=by rw[hW,h0];exact(zoe _ _ _ (by simp)).trans ((zod _ _ _ _ rfl).trans rfl)
 have s:d.cell? ⟨l,0,none⟩=some (.int .i64 y.kind):=by rw[hW,h1];exact(zod _ _ _ _ (by simp)).trans rfl
 have m:d.cell? ⟨l,1,none⟩=some (.slice y.keys.a y.keys.n y.keys.c):=by rw[hW,h1];exact(zod _ _ _ _ (by simp)).trans rfl
 have A:d.cell? ⟨l,2,none⟩=some (.slice y.acts.a y.acts.n y.acts.c):=by rw[hW,h1];exact(zod _ _ _ _ (by simp)).trans rfl
 have C:d.cell? ⟨l,3,none⟩=some (.int .i64 y.cap):=by rw[hW,h1];exact(zod _ _ _ _ (by simp)).trans rfl
 have t:d.cell? ⟨l,4,none⟩=some (.int .i64 y.dflt):=by rw[hW,h1];exact(zod _ _ _ _ (by simp)).trans rfl
 have B:d.cell? ⟨l,5,none⟩=some (.slice y.args.a y.args.n y.args.c):=by rw[hW,h1];exact(zod _ _ _ _ (by simp)).trans rfl
 have HB:Hid (Below w.heap.size w d):=by rw[hW];exact ze (ze (zof _ _))
 have f:=hid hW;have E0:=hid h0;have E1:=hid h1;clear hW h0 h1;rw[Q]at m f;rw[P]at A f;rw[O]at B f;rw[<-S]at s f;rw[<-q3]at C f;rw[<-q4]at t f;rw[Q,P,O,<-S,<-q3,<-q4];rw[P,<-q2]at g;rw[O,<-q5]at i;have a5:Hid (∀w',Below w.heap.size w w'->Calls Tryz.prog 34 #[.slice x.acts.a x.acts.n x.acts.c,.slice y.acts.a x.acts.n y.acts.c] w' (Yes w')):=fun w' h=>zpR _ _ (by omega) (o.step h) (g.step h)
 have Y:Hid (∀w',Below w.heap.size w w'->Calls Tryz.prog 82 #[.slice x.args.a x.args.n x.args.c,.slice y.args.a x.args.n y.args.c] w' (Yes w')):=fun w' h=>zta _ _ (by omega) (r.step h) (i.step h)
 have HX:=hid (hx.step RefD.keeps HB.out);have HY:=hid (hy.step RefD.keeps HB.out);have HN:=hid Q;have a0:=hid q1;have a9:((x.keys.n:Int) !=(x.keys.n:Int))=false:=by simp
 have a8:=hm.1;obtain⟨R,esa⟩:∃R,x.keys.a=R:=⟨_,rfl⟩;obtain⟨ta,eta⟩:∃ta,y.keys.a=ta:=⟨_,rfl⟩;rw[esa]at z1 f;rw[eta]at m f;rw[esa,eta];have a7:=hid esa;have a1:=hid eta;clear hx hy o g r i S q1 q2 q3 q4 q5 Q P O hm esa eta;go_enter Tryz.func37,Tryz.ntmps37
 go_wp2;rw[<-f.out,<-E1.out,<-E0.out];clear f E0 E1;go_loopw [5] (fun q wr=>∃k:Nat,k<=x.keys.n/\q=.int .i64 k/\Hid (Below d.heap.size d wr)) (fun q _=>x.keys.n-(intOf q).toNat)
 case atStart=>exact⟨0,zon _,rfl,zof _ _⟩
 case round=>
  obtain⟨k,hk,rfl,hb⟩:=hrel;have b:=hb.out;have z0:=za z0 b;have s:=za s b;have z1:=za z1 b;have m:=za m b;have K:=za K b;have A:=za A b;have E:=za E b;have C:=za C b;have J:=za J b;have t:=za t b;have F:=za F b;have B:=za B b;clear b;by_cases N:k<x.keys.n
  ·have W:(k:Int)<(x.keys.n:Int):=by omega
   obtain⟨g1,o1,u,e1,Z,⟨u0,_⟩,⟨u1,_⟩⟩:=zu (HX.out.step RefD.keeps hb.out) N;obtain⟨g2,o2,v,e2,hv,⟨v0,_⟩,⟨v1,_⟩⟩:=zu (HY.out.step RefD.keeps hb.out) (show k<y.keys.n by rw[HN.out];exact N)
   obtain rfl:R=some ⟨g1,o1,none⟩:=by rw[<-a7.out];exact e1
   obtain rfl:ta=some ⟨g2,o2,none⟩:=by rw[<-a1.out];exact e2
   obtain rfl:u=v:=by rw[a0.out,hv]at Z;exact(zoq Z).symm
   have V:=zm u0;have a3:=zm u1;have a4:=zm v0;have a2:=zm v1;have U:=zm z1;have T:=zm m;clear e1 e2 Z hv z0 K E J F s A C t B;go_wp2_with fail
   haveI inhB:∀w:World,Inhabited (zq w):=fun w=>⟨⟨w,zof _ _⟩⟩
   refine zi (by kernel_rfl) (by kernel_rfl) ?_
   repeat (go_big_quiet_step (fail))
   refine wpQuiet_nil ?_;intro wq X;obtain⟨⟨_,M⟩,D⟩:=X;subst D;have HE:=hid (zh hb.out M);clear M hb V a3 a4 a2 U T;go_wp2;go_roundw
   case rel=>exact⟨k+1,by omega,by go_num,HE⟩
   case measure=>simp[intOf];omega
  ·have W:¬(k:Int)<(x.keys.n:Int):=by omega
   have BW:=hid (zh HB.out hb.out);clear hb;have H:=hid (a5.out _ BW.out);go_wp2_with fail
   refine H.out.mono ?_;rintro e w1 ⟨rfl,b⟩;have G:=hid (zh BW.out b);have z0:=za z0 b;have s:=za s b;have z1:=za z1 b;have m:=za m b;have K:=za K b;have A:=za A b;have E:=za E b;have C:=za C b;have J:=za J b;have t:=za t b;have F:=za F b;have B:=za B b;have I:=hid (Y.out _ G.out);clear b H;go_wp2_with fail
   refine I.out.mono ?_;rintro e w2 ⟨rfl,L⟩;have a6:=hid (zh G.out L);clear L I;go_wp2;go_ret;exact⟨rfl,a6.out⟩
end Go.Proofs.YtbmcgbmegcpgnaaGreat
