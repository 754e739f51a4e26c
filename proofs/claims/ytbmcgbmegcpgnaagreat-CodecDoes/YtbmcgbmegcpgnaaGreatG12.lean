import Derived.Test.YtbmcgbmegcpgnaaGreatG11
import Derived.Deep.RegionWith
import Derived.Test.YtbmcgbmegcpgnaaGreatG10
import Derived.Test.YtbmcgbmegcpgnaaGreatG9
set_option maxHeartbeats 16000000
set_option maxRecDepth 20000
set_option linter.unusedSimpArgs false
namespace Go.Proofs.YtbmcgbmegcpgnaaGreat
open Go.RowKit
theorem DeedsV.keep{w a w2:World}{b:List DeedX}{v:Value}(h:DeedsV w b a v)(hb:∀g,w.heap.size<=g->w2.heap[g]?=a.heap[g]?\/a.heap.size<=g):DeedsV w b w2 v:=by
 obtain⟨g,i,e,c,j,d,hw⟩:=h;have k:g<a.heap.size:=d.lt;exact⟨g,i,e,c,j,d.blk ((hb g c).resolve_right (by omega)),fun y f=>(hw y f).keep hb⟩
theorem DeedsV.low{w w0 b:World}{a:List DeedX}{v:Value}(h:DeedsV w a b v)(hb:w0.heap.size<=w.heap.size):DeedsV w0 a b v:=by
 obtain⟨g,d,e,f,i,j,hw⟩:=h;exact⟨g,d,e,zoz hb f,i,j,fun y c=>(hw y c).low hb⟩
theorem DeedsV.sl{w d:World}{a:List DeedX}{v:Value}(h:DeedsV w a d v):∃b l c,v=.slice b l c:=by
 obtain⟨g,f,e,_⟩:=h;exact⟨_,_,_,e⟩
structure ActX where
 w : List Int
 ops : List DeedX
def zpT(zs:List Int)(t:Nat):Except (Int × Int) (ActX × Nat):=y7 (yz zs (ke zs) t) fun a u1=>y7 (yz zs (qc zs) u1) fun b u2=>.ok (⟨a,b⟩,u2)
def zvo(w:World)(x:ActX)(w':World)(v:Value):Prop:=∃a b,v=.agg #[a,b]/\IntsV w x.w w' a/\DeedsV w x.ops w' b
theorem zuA{p:Nat}{a:Option Addr}{c:Nat}{zs:List Int}{t:Nat}{w:World}(h:Rd p a c zs t w):
 Calls Tryz.prog 119 #[.pointer (some ⟨p,0,none⟩)] w (ka p a c zs (zvo w) (zpT zs t) w):=by
 obtain⟨k,eW⟩:∃k,k=w.alloc (.cells #[.slice none 0 0,.slice none 0 0] 56):=⟨_,rfl⟩;obtain⟨bx,ebx⟩:∃b,b=w.heap.size:=⟨_,rfl⟩;have D:p<w.heap.size:=zog _ _ h.c0;have x:Hid (RSt p a c zs 56 bx w t [.slice none 0 0,.slice none 0 0] k):=by rw[eW,ebx];exact RSt.start h _ _
 have g:Hid (bx<k.heap.size/\p<k.heap.size/\w.heap.size<=k.heap.size):=⟨x.out.box.lt,zom D x.out.rn.size,x.out.rn.size⟩;have C:=hid (zp8 x.out.rd);have O:=hid eW;have Q:=hid ebx;clear h eW ebx D;go_enter Tryz.func119,Tryz.ntmps119
 go_wp2_with fail
 rw[<-O.out,<-Q.out];clear O Q;refine C.out.mono ?_;rintro e w2 ⟨r,j⟩;cases m:yz zs (ke zs) t with
 |error e=>
  rw[m]at j;obtain rfl:=j;exact yl (P:=Tryz.prog) (fn:=Tryz.f119) (by unfold zpT;rw[m];exact⟨x.out.rn.trans r,rfl⟩) rfl
 |ok y=>
  obtain⟨d,u1⟩:=y;rw[m]at j;obtain⟨_,rfl,⟨l,rfl,s⟩,j⟩:=j;have s:IntsV k d w2 (.slice (some ⟨l,0,none⟩) d.length d.length):=⟨l,rfl,s⟩;have E:=x.out.read r j;have N:=E.box.cell (i:=0) rfl;have z0:=E.box.fz 0;have T:=E.box.lt;obtain⟨W3,eW3⟩:∃W,W=w2.setCell ⟨bx,0,none⟩ (.slice (some ⟨l,0,none⟩) d.length d.length):=⟨_,rfl⟩;have L:Hid (k.heap.size<=W3.heap.size):=by
   show k.heap.size<=W3.heap.size;rw[eW3,zow];exact r.size
  have I:Hid (RSt p a c zs 56 bx w u1 [.slice (some ⟨l,0,none⟩) d.length d.length,.slice none 0 0] W3):=by rw[eW3];exact E.put 0 _ rfl (fun n h=>by cases h)
  have A:Hid (IntsV k d W3 (.slice (some ⟨l,0,none⟩) d.length d.length)):=by rw[eW3];exact s.keep (zl g.out.1 _ _)
  have K:=hid m;have F:=hid eW3;have H:=hid (zsi I.out.rd);clear C r j m E eW3 x s;go_wp2_with fail
  rw[<-F.out];clear F N z0 T;refine H.out.mono ?_;rintro e S ⟨r,j⟩;cases m:yz zs (qc zs) u1 with
  |error e=>
   rw[m]at j;obtain rfl:=j;exact yl (P:=Tryz.prog) (fn:=Tryz.f119) (by unfold zpT;rw[K.out];unfold y7;dsimp only;rw[m];exact⟨I.out.rn.trans r,rfl⟩) rfl
  |ok y=>
   obtain⟨f,u2⟩:=y;rw[m]at j;obtain⟨_,rfl,⟨o,X,rfl,q⟩,j⟩:=j;have q:DeedsV W3 f S (.slice (some ⟨o,0,none⟩) f.length f.length):=⟨o,X,rfl,q⟩;have B:=I.out.read r j;have A:=hid (A.out.keep (ko r g.out.2.1));have J:=hid (q.low (w0:=k) L.out);have U:=B.box.cell (i:=1) rfl;have z1:=B.box.fz 1;have Y:=B.box.lt;obtain⟨W5,eW5⟩:∃W,W=S.setCell ⟨bx,1,none⟩ (.slice (some ⟨o,0,none⟩) f.length f.length):=⟨_,rfl⟩;have u:Hid (RSt p a c zs 56 bx w u2 [.slice (some ⟨l,0,none⟩) d.length d.length,.slice (some ⟨o,0,none⟩) f.length f.length] W5):=by rw[eW5];exact B.put 1 _ rfl (fun n h=>by cases h)
   have A:Hid (IntsV k d W5 (.slice (some ⟨l,0,none⟩) d.length d.length)):=by rw[eW5];exact A.out.keep (zl g.out.1 _ _)
   have J:Hid (DeedsV k f W5 (.slice (some ⟨o,0,none⟩) f.length f.length)):=by rw[eW5];exact J.out.keep (zl g.out.1 _ _)
   have R:=hid m;have G:=hid eW5;clear H r j m B eW5 I q;go_upto_region 3 with fail
   rw[<-G.out];clear G U z1 Y;have M:=((u.out.put 0 (.slice (some ⟨l,0,none⟩) d.length d.length) rfl (fun n h=>by cases h)).put 1 (.slice (some ⟨o,0,none⟩) f.length f.length) rfl (fun n h=>by cases h))
   have V:Hid (ka p a c zs (zvo w) (zpT zs t) w (.returned (.agg #[.slice (some ⟨l,0,none⟩) d.length d.length,.slice (some ⟨o,0,none⟩) f.length f.length])) ((W5.setCell ⟨bx,0,none⟩ (.slice (some ⟨l,0,none⟩) d.length d.length)).setCell ⟨bx,1,none⟩ (.slice (some ⟨o,0,none⟩) f.length f.length))):=by
    show ka _ _ _ _ _ _ _ _ _;unfold zpT;rw[K.out];unfold y7;dsimp only;rw[R.out];dsimp only;exact⟨M.rn,_,rfl,⟨_,_,rfl,(((A.out.keep (zl g.out.1 0 (.slice (some ⟨l,0,none⟩) d.length d.length))).keep (zl g.out.1 1 (.slice (some ⟨o,0,none⟩) f.length f.length))).low g.out.2.2),(((J.out.keep (zl g.out.1 0 (.slice (some ⟨l,0,none⟩) d.length d.length))).keep (zl g.out.1 1 (.slice (some ⟨o,0,none⟩) f.length f.length))).low g.out.2.2)⟩,M.rd⟩
   have N:=u.out.box.cell (i:=0) rfl;have z0:=u.out.box.fz 0;have U:=u.out.box.cell (i:=1) rfl;have z1:=u.out.box.fz 1;have T:=u.out.box.lt;clear u M A J K R;go_wp2;exact bodyPost_ret (v:=.agg #[.slice (some ⟨l,0,none⟩) d.length d.length,.slice (some ⟨o,0,none⟩) f.length f.length]) (by simp[results,Tryz.results119,go_sem, *]) rfl V.out
theorem Tryz.infoActR:(Tryz.prog.info? 56).map (fun i=>(i.zero,i.size,i.bytes))=some (some (.agg #[.slice none 0 0,.slice none 0 0]),2,48):=by kernel_rfl
def zrz(y:ActX × Value × Value):List Value:=[y.2.1,y.2.2]
def ActP(w:World)(y:ActX × Value × Value)(w':World):Prop:=IntsV w y.1.w w' y.2.1/\DeedsV w y.1.ops w' y.2.2
theorem ActP.keep{w a w2:World}{y:ActX × Value × Value}(h:ActP w y a)(hb:∀g,w.heap.size<=g->w2.heap[g]?=a.heap[g]?\/a.heap.size<=g):ActP w y w2:=by
 obtain⟨c,b⟩:=h;exact⟨c.keep hb,b.keep hb⟩
theorem ActP.low{w w0 a:World}{y:ActX × Value × Value}(h:ActP w y a)(hb:w0.heap.size<=w.heap.size):ActP w0 y a:=by
 obtain⟨c,b⟩:=h;exact⟨c.low hb,b.low hb⟩
def ActsV(w:World)(a:List ActX)(w':World)(v:Value):Prop:=∃g,∃b:List (ActX × Value × Value),v=.slice (some ⟨g,0,none⟩) a.length a.length/\w.heap.size<=g/\b.map (·.1)=a/\RowK zrz 2 56 a.length w' g b/\∀y∈b,ActP w y w'
theorem zsX{p:Nat}{a:Option Addr}{c:Nat}{zs:List Int}{t:Nat}{w:World}(h:Rd p a c zs t w):
 Calls Tryz.prog 118 #[.pointer (some ⟨p,0,none⟩),.func (.func 119) #[.pointer (some ⟨p,0,none⟩)] #[]] w (ka p a c zs (ActsV w) (yz zs (zpT zs) t) w):=by
 have HP:=hid (zp2 h);clear h;go_enter Tryz.func118,Tryz.ntmps118
 go_wp2_with fail
 refine HP.out.mono ?_;rintro e Y ⟨hn,hr⟩;cases S:zpl zs t with
 |error e=>
  have e1:yz zs (zpT zs) t=.error e:=by unfold yz;rw[S]
  rw[S]at hr;obtain rfl:=hr;exact yl (P:=Tryz.prog) (fn:=Tryz.f118) (by rw[e1];exact⟨hn,rfl⟩) rfl
 |ok x=>
  obtain⟨m,t1⟩:=x;have e1:yz zs (zpT zs) t=xh (zpT zs) m t1:=by unfold yz;rw[S]
  rw[S]at hr;obtain⟨_,rfl,⟨rfl,hm⟩,E⟩:=hr;obtain⟨i0,hi,X,V,T⟩:=info_parts Tryz.infoActR;have H:m<=100000:=zoz hm E.few;have b3:∀W:World,(Instr.makeSlice 25 (.int .i64 (m:Int)) (.int .i64 (m:Int))).run Tryz.prog W=.ok (.slice (some ⟨W.heap.size,0,none⟩) m m) (W.alloc (.cells (madeCells #[.slice none 0 0,.slice none 0 0] (m*2)) 56)):=fun W=>by
   have h:=run_make (P:=Tryz.prog) W 25 56 i0 _ Tryz.underlying25 hi X .i64 .i64 (m:Int) (m:Int) (by omega) (by omega) (by rw[T];omega) (by omega)
   rw[show((m:Int)).toNat=m by omega,V]at h
   exact h
  obtain⟨B,hW⟩:∃B,B=Y.alloc (.cells (madeCells #[.slice none 0 0,.slice none 0 0] (m*2)) 56):=⟨_,rfl⟩;obtain⟨g,hg⟩:∃g,g=Y.heap.size:=⟨_,rfl⟩;have b2:Below Y.heap.size Y B:=by rw[hW];exact ze (zof _ _)
  have R0:RowK zrz 2 56 m B g []:=by
   rw[hW,hg];exact RowK.new zrz 2 _ m Y _ (by simp[madeCells])
  have N:=hid (E.step b2);have G:=hid (hn.trans (Rn.of b2));have J:p<g:=by rw[hg];exact zog _ _ E.c0
  have K:Hid (w.heap.size<=g):=by show w.heap.size<=g;rw[hg];exact hn.size
  have O:Hid (p<g):=J;have a6:Hid (w.heap.size<=B.heap.size):=G.out.size;have b4:Hid (g≠p):=by show g≠p;omega
  have d:=hid R0;have a0:=hid (R0.lt);have a5:Hid (p<B.heap.size):=Nat.lt_trans J R0.lt;have EW:=hid hW;have EG:=hid hg;have E1:=hid e1;have a9:=hid H;clear HP S E hn e1 hm hi X V T hW hg b2 R0 J H;go_wp2;rw[<-EW.out,<-EG.out];clear EW EG b3;go_loopw [12,6] (fun q _ wr=>∃(i u:Nat) (C:List (ActX × Value × Value)),q=.int .i64 (i:Int)/\Hid (i<=m)/\Hid (C.length=i)/\Hid (∀y∈C,ActP B y wr)/\Hid (B.heap.size<=wr.heap.size)/\Hid (xk (C.map (·.1)) (xh (zpT zs) (m-i) u)=yz zs (zpT zs) t)/\Hid (Rd p a c zs u wr)/\Hid (Rn p w wr)/\Hid (RowK zrz 2 56 m wr g C)) (fun q _ _=>m-(intOf q).toNat)
  case atStart=>
   refine⟨0,t1,[],rfl,zon _,rfl,fun x hx=>(by simp at hx),zos _,?_,N,G,d⟩
   show xk [] (xh (zpT zs) m t1)=_;rw[E1.out];cases xh (zpT zs) m t1 with
   |error e=>rfl
   |ok y=>rfl
  case round=>
   obtain⟨i,u,C,rfl,HI,Z,F,HS,HL,N,G,d⟩:=hrel;by_cases a3:i<m
   ·have b5:(i:Int)<(m:Int):=by omega
    have HF:=hid (zuA N.out);go_wp2_with fail
    refine HF.out.mono ?_;rintro e L ⟨A,f⟩;have M:=HL.out;rw[show m-i=(m-i-1)+1 by omega]at M
    cases hq:zpT zs u with
    |error e=>
     rw[zo5 _ _ _ _ e hq]at M;rw[hq]at f;obtain rfl:=f;exact yl (P:=Tryz.prog) (fn:=Tryz.f118) (by rw[<-M];exact⟨G.out.trans A,rfl⟩) rfl
    |ok y=>
     obtain⟨x,u'⟩:=y;rw[zo4 _ _ _ _ x u' hq]at M;rw[hq]at f;obtain⟨_,rfl,⟨b7,b6,rfl,s⟩,f⟩:=f;have s:ActP wr (x,b7,b6) L:=s;obtain⟨j,n,c0,rfl⟩:=s.1.sl;obtain⟨r,k,c1,rfl⟩:=s.2.sl;have b:=d.out.rn A b4.out;have D:=Z.out;have hb:i*2+2<=m*2:=by omega
     obtain⟨o0,k0⟩:=b.some (o:=i*2) (by omega)
     obtain⟨o1,k1⟩:=b.some (o:=i*2+1) (by omega)
     have z0:=b.fz (i*2);have z1:=b.fz (i*2+1);have kl:=b.lt;have p1:=b.put (fun _=>rfl) (i*2) (.slice j n c0) (by omega) (by omega)
     have p2:=p1.1.put (fun _=>rfl) (i*2+1) (.slice r k c1) (by omega) (by omega)
     have a8:=hid ((f.put_far O.out (i*2) (.slice j n c0)).put_far O.out (i*2+1) (.slice r k c1));have a4:=hid (((G.out.trans A).put_new K.out (i*2) (.slice j n c0)).put_new K.out (i*2+1) (.slice r k c1));have I:Hid (RowK zrz 2 56 m ((L.setCell ⟨g,i*2,none⟩ (.slice j n c0)).setCell ⟨g,i*2+1,none⟩ (.slice r k c1)) g (C++[(x,(Value.slice j n c0),(Value.slice r k c1))])):=by
      refine p2.1.more (x,(Value.slice j n c0),(Value.slice r k c1)) fun l u U=>?_
      rw[D];match l,U with
      |0,U=>cases U;exact((zou _ _ _ _ (by intro e;simp only[Addr.mk.injEq]at e;omega)).trans p1.2)
      |1,U=>cases U;exact p2.2
     have a2:Hid (B.heap.size<=((L.setCell ⟨g,i*2,none⟩ (.slice j n c0)).setCell ⟨g,i*2+1,none⟩ (.slice r k c1)).heap.size):=by
      have h1:B.heap.size<=L.heap.size:=zoz HS.out A.size;show B.heap.size<=((L.setCell ⟨g,i*2,none⟩ (.slice j n c0)).setCell ⟨g,i*2+1,none⟩ (.slice r k c1)).heap.size;simpa[World.setCell]using h1
     have Q:Hid (∀y∈C++[(x,(Value.slice j n c0),(Value.slice r k c1))],ActP B y ((L.setCell ⟨g,i*2,none⟩ (.slice j n c0)).setCell ⟨g,i*2+1,none⟩ (.slice r k c1))):=fun y hy=>by
      have HH:ActP B y L:=by
       rcases List.mem_append.1 hy with h|h
       ·exact(F.out y h).keep (ko A a5.out)
       ·simp only[zoD,zoA,or_false]at h;rw[h];exact s.low HS.out
      exact((HH.keep (zl a0.out (i*2) (.slice j n c0))).keep (zl a0.out (i*2+1) (.slice r k c1)))
     have a1:Hid (xk ((C++[(x,(Value.slice j n c0),(Value.slice r k c1))]).map (·.1)) (xh (zpT zs) (m-(i+1)) u')=yz zs (zpT zs) t):=by
      show _=_;rw[<-M,show m-(i+1)=m-i-1 by omega,List.map_append];rfl
     have a7:Hid ((C++[(x,(Value.slice j n c0),(Value.slice r k c1))]).length=i+1):=by show _=_;rw[List.length_append,Z.out];rfl
     have b8:=a9.out;clear HF A f M hq b HL Z F d N G s p1 p2 D HS;go_wp2;go_roundw
     case rel=>exact⟨i+1,u',C++[(x,(Value.slice j n c0),(Value.slice r k c1))],zhs (by omega),hid a3,a7,Q,a2,a1,a8,a4,I⟩
     case measure=>simp[intOf];omega
   ·have b5:¬(i:Int)<(m:Int):=by omega
    have e3:m-i=0:=by omega
    have HE:Hid (ka p a c zs (ActsV w) (yz zs (zpT zs) t) w (.returned (.slice (some ⟨g,0,none⟩) m m)) wr):=by
     show ka _ _ _ _ _ _ _ _ _;rw[<-HL.out,e3];have D:C.length=m:=by have h1:=Z.out;have h2:=HI.out;omega
     have R:=d.out;refine⟨G.out,_,rfl,⟨g,C,?_,K.out,?_,?_,?_⟩,N.out⟩
     ·rw[List.append_nil,zoE,D]
     ·rw[List.append_nil]
     ·rw[List.append_nil,zoE,D];exact R
     ·exact fun y hy=>(F.out y hy).low a6.out
    clear HL Z F d N G;go_wp2;go_ret;exact HE.out
theorem Tryz.infoCaseR:(Tryz.prog.info? 98).map (fun i=>(i.zero,i.size,i.bytes))=some (some (.agg #[.int .u64 0,.int .u64 0,.int .i64 0]),3,24):=by kernel_rfl
@[reducible] def zrH(x:Int × Int × Int):List Value:=[.int .u64 x.1,.int .u64 x.2.1,.int .i64 x.2.2]
def zrX(x:Int × Int × Int):Prop:=(Lit.int .u64 x.1).wf=true/\(Lit.int .u64 x.2.1).wf=true/\(Lit.int .i64 x.2.2).wf=true
def CasesV(w:World)(a:List (Int × Int × Int))(w':World)(v:Value):Prop:=∃g,v=.slice (some ⟨g,0,none⟩) a.length a.length/\w.heap.size<=g/\RowK zrH 3 98 a.length w' g a/\∀x∈a,zrX x
structure StateX where
 head : Int
 on : Int × Int
 cs : List (Int × Int × Int)
 els : Int
def zk0(zs:List Int)(t:Nat):Except (Int × Int) (StateX × Nat):=y7 (ke zs t) fun b u1=>y7 (zpl zs u1) fun m u2=>y7 (if m=0 then .ok ((0,0),u2)else jp zs u2) fun on u3=>y7 (xh (zph zs) m u3) fun cs u4=>y7 (ke zs u4) fun a u5=>.ok (⟨b,on,cs,a⟩,u5)
def zsk(w:World)(x:StateX)(w':World)(v:Value):Prop:=∃a,v=.agg #[.int .i64 x.head,.int .i64 x.on.1,.int .i64 x.on.2,a,.int .i64 x.els]/\CasesV w x.cs w' a/\(Lit.int .i64 x.head).wf=true/\(Lit.int .i64 x.on.1).wf=true/\(Lit.int .i64 x.on.2).wf=true/\(Lit.int .i64 x.els).wf=true
structure RC (p : Nat) (a : Option Addr) (c : Nat) (zs : List Int) (bx g m : Nat) (w0 : World) (u : Nat) (vs : List Value) (xs : List (Int × Int × Int)) (w : World) : Prop where
 st : RSt p a c zs 51 bx w0 u vs w
 row : RowK zrH 3 98 m w g xs
 gp : p < g
 gb : g ≠ bx
 gn : w0.heap.size <= g
theorem RC.read{p:Nat}{a:Option Addr}{c:Nat}{zs:List Int}{f g m:Nat}{w0:World}{u b:Nat}{i:List Value}{e:List (Int × Int × Int)}{w w':World}(h:RC p a c zs f g m w0 u i e w)(r:Rn p w w')(d:Rd p a c zs b w'):RC p a c zs f g m w0 b i e w':=⟨h.st.read r d,h.row.rn r (by have:=h.gp;omega),h.gp,h.gb,h.gn⟩
theorem RC.put{p:Nat}{a:Option Addr}{c:Nat}{zs:List Int}{b g m:Nat}{w0:World}{u:Nat}{d:List Value}{f:List (Int × Int × Int)}{w:World}(h:RC p a c zs b g m w0 u d f w)(i:Nat)(v:Value){o:Value}(k:d[i]?=some o)(j:∀n,o≠.int .u8 n):RC p a c zs b g m w0 u (d.set i v) f (w.setCell ⟨b,i,none⟩ v):=by
 refine⟨h.st.put i v k j,?_,h.gp,h.gb,h.gn⟩;obtain⟨e,q,l⟩:=h.row;exact⟨e,(zop _ _ _ _ (by exact h.gb)).trans q,l⟩
theorem RSt.far{p:Nat}{a:Option Addr}{c:Nat}{zs:List Int}{T:TypeId}{b:Nat}{w0:World}{u:Nat}{d:List Value}{w:World}(h:RSt p a c zs T b w0 u d w){g:Nat}(i:p<g)(hb:g≠b)(f:w0.heap.size<=g)(o:Nat)(v:Value):RSt p a c zs T b w0 u d (w.setCell ⟨g,o,none⟩ v):=
 ⟨h.rd.put_far i o v,h.rn.put_new f o v,(zop _ _ _ _ (by exact fun e=>hb e.symm)).trans h.box,h.new,h.ne⟩
theorem RC.more{p:Nat}{a:Option Addr}{c:Nat}{zs:List Int}{k g m:Nat}{w0:World}{u:Nat}{n:List Value}{b:List (Int × Int × Int)}{w:World}(h:RC p a c zs k g m w0 u n b w)(o:b.length<m)(x:Int × Int × Int):RC p a c zs k g m w0 u n (b++[x]) (((w.setCell ⟨g,b.length*3,none⟩ (.int .u64 x.1)).setCell ⟨g,b.length*3+1,none⟩ (.int .u64 x.2.1)).setCell ⟨g,b.length*3+2,none⟩ (.int .i64 x.2.2)):=by
 have i:=h.row.put (fun _=>rfl) (b.length*3) (.int .u64 x.1) (by omega) (by omega)
 have f:=i.1.put (fun _=>rfl) (b.length*3+1) (.int .u64 x.2.1) (by omega) (by omega)
 have j:=f.1.put (fun _=>rfl) (b.length*3+2) (.int .i64 x.2.2) (by omega) (by omega)
 refine⟨((h.st.far h.gp h.gb h.gn _ _).far h.gp h.gb h.gn _ _).far h.gp h.gb h.gn _ _,?_,h.gp,h.gb,h.gn⟩;refine j.1.more x fun l u d=>?_
 match l,d with
 |0,d=>cases d;exact(zou _ _ _ _ (by intro e;simp only[Addr.mk.injEq]at e;omega)).trans ((zou _ _ _ _ (by intro e;simp only[Addr.mk.injEq]at e;omega)).trans i.2)
 |1,d=>cases d;exact(zou _ _ _ _ (by intro e;simp only[Addr.mk.injEq]at e;omega)).trans f.2
 |2,d=>cases d;exact j.2
theorem zrY{α :Type}{p: α->Prop}{b:List α}{x: α}(h:∀y∈b,p y)(c:p x):∀y∈b++[x],p y:=fun y d=>by
 rcases List.mem_append.1 d with a|a
 ·exact h y a
 ·simp only[zoD,zoA,or_false]at a;rw[a];exact c
theorem zu4{p:Nat}{a:Option Addr}{c:Nat}{zs:List Int}{t:Nat}{w:World}(h:Rd p a c zs t w):
 Calls Tryz.prog 117 #[.pointer (some ⟨p,0,none⟩)] w (ka p a c zs (zsk w) (zk0 zs t) w):=by
 obtain⟨W1,eW⟩:∃W1,W1=w.alloc (.cells #[.int .i64 0,.int .i64 0,.int .i64 0,.slice none 0 0,.int .i64 0] 51):=⟨_,rfl⟩;obtain⟨bx,ebx⟩:∃b,b=w.heap.size:=⟨_,rfl⟩;have S0:Hid (RSt p a c zs 51 bx w t [.int .i64 0,.int .i64 0,.int .i64 0,.slice none 0 0,.int .i64 0] W1):=by rw[eW,ebx];exact RSt.start h _ _
 have a7:=hid (zpb S0.out.rd);have WZ:Hid ((Lit.int .i64 0).wf=true):=by show _=true;decide
 have EW:=hid eW;have EB:=hid ebx;clear h eW ebx;go_enter Tryz.func117,Tryz.ntmps117
 go_wp2_with fail
 rw[<-EW.out,<-EB.out];clear EW EB;refine a7.out.mono ?_;rintro e w1 ⟨B,d⟩;cases f:ke zs t with
 |error e=>
  rw[f]at d;obtain rfl:=d;exact yl (P:=Tryz.prog) (fn:=Tryz.f117) (by unfold zk0;rw[f];exact⟨S0.out.rn.trans B,rfl⟩) rfl
 |ok y=>
  obtain⟨C,u1⟩:=y;rw[f]at d;obtain⟨_,rfl,⟨rfl,hw⟩,d⟩:=d;have T0:=S0.out.read B d;have c1:=hid hw;have b0:=T0.box.cell (i:=0) rfl;have z0:=T0.box.fz 0;have l0:=T0.box.lt;obtain⟨V1,eV1⟩:∃W,W=w1.setCell ⟨bx,0,none⟩ (.int .i64 C):=⟨_,rfl⟩;have S1:Hid (RSt p a c zs 51 bx w u1 [.int .i64 C,.int .i64 0,.int .i64 0,.slice none 0 0,.int .i64 0] V1):=by rw[eV1];exact T0.put 0 (.int .i64 C) rfl (fun n h=>by cases h)
  have Q1:=hid f;have Y:=hid eV1;have b8:=hid (zp2 S1.out.rd);clear a7 B d f T0 eV1 S0 hw;go_wp2_with fail
  rw[<-Y.out];clear Y b0 z0 l0;refine b8.out.mono ?_;rintro e w2 ⟨B,d⟩;cases f:zpl zs u1 with
  |error e=>
   rw[f]at d;obtain rfl:=d;exact yl (P:=Tryz.prog) (fn:=Tryz.f117) (by unfold zk0;rw[Q1.out];unfold y7;dsimp only;rw[f];exact⟨S1.out.rn.trans B,rfl⟩) rfl
  |ok y=>
   obtain⟨m,u2⟩:=y;rw[f]at d;obtain⟨_,rfl,⟨rfl,hm⟩,d⟩:=d;have T1:=S1.out.read B d;obtain⟨i0,hi,b7,b6,a8⟩:=info_parts Tryz.infoCaseR;have X:m<=100000:=zoz hm d.few;have c6:∀W:World,(Instr.makeSlice 49 (.int .i64 (m:Int)) (.int .i64 (m:Int))).run Tryz.prog W=.ok (.slice (some ⟨W.heap.size,0,none⟩) m m) (W.alloc (.cells (madeCells #[.int .u64 0,.int .u64 0,.int .i64 0] (m*3)) 98)):=fun W=>by
    have h:=run_make (P:=Tryz.prog) W 49 98 i0 _ Tryz.underlying49 hi b7 .i64 .i64 (m:Int) (m:Int) (by omega) (by omega) (by rw[a8];omega) (by omega)
    rw[show((m:Int)).toNat=m by omega,b6]at h
    exact h
   obtain⟨g,hg⟩:∃g,g=w2.heap.size:=⟨_,rfl⟩;have T2:=T1.put 3 (.slice (some ⟨g,0,none⟩) m m) rfl (fun n h=>by cases h)
   obtain⟨V2,eV2⟩:∃W,W=(w2.setCell ⟨bx,3,none⟩ (.slice (some ⟨g,0,none⟩) m m)).alloc (.cells (madeCells #[.int .u64 0,.int .u64 0,.int .i64 0] (m*3)) 98):=⟨_,rfl⟩;have bb:Below (w2.setCell ⟨bx,3,none⟩ (.slice (some ⟨g,0,none⟩) m m)).heap.size (w2.setCell ⟨bx,3,none⟩ (.slice (some ⟨g,0,none⟩) m m)) V2:=by rw[eV2];exact ze (zof _ _)
   have R0:RowK zrH 3 98 m V2 g []:=by
    have h:=RowK.new zrH 3 98 m (w2.setCell ⟨bx,3,none⟩ (.slice (some ⟨g,0,none⟩) m m)) (madeCells #[.int .u64 0,.int .u64 0,.int .i64 0] (m*3)) (by simp[madeCells])
    rw[zow,<-hg,<-eV2]at h;exact h
   have a9:p<g:=by rw[hg];exact zog _ _ d.c0
   have a6:g≠bx:=by rw[hg];have:=T1.box.lt;omega
   have a5:w.heap.size<=g:=by rw[hg];exact T1.rn.size
   have U:Hid (RC p a c zs bx g m w u2 [.int .i64 C,.int .i64 0,.int .i64 0,.slice (some ⟨g,0,none⟩) m m,.int .i64 0] [] V2):=⟨T2.read (Rn.of bb) (T2.rd.step bb),R0,a9,a6,a5⟩;have b3:=T1.box.cell (i:=3) rfl;have z3:=T1.box.fz 3;have l3:=T1.box.lt;have Q2:=hid f;have Y:=hid eV2;have EG:=hid hg;have b9:=hid X;clear b8 B d f T1 T2 S1 R0 bb hg eV2 hm X hi b7 b6 a8 a9 a6 a5;go_upto_region 3 with fail
   rw[<-EG.out,<-Y.out];clear Y EG b3 z3 l3 c6;have c3:=U.out.st.box.cell (i:=3) rfl;have lc:=U.out.st.box.lt;by_cases O:m=0
   ·have c5:¬(0:Int)<(m:Int):=by omega
    have A:Hid (zk0 zs t=y7 (xh (zph zs) m u2) fun cs u4=>y7 (ke zs u4) fun el u5=>.ok (⟨C,(0,0),cs,el⟩,u5)):=by
     show _=_;unfold zk0;rw[Q1.out];unfold y7;dsimp only;rw[Q2.out];dsimp only;rw[if_pos O]
    have a4:=hid O;have CL:=U;clear O Q1 Q2 U;go_wp2_with fail
    clear c3 lc;go_loopw [21,3] (fun q _ wr=>∃(i u:Nat) (l:List (Int × Int × Int)),q=.int .i64 (i:Int)/\Hid (i<=m)/\Hid (l.length=i)/\Hid (∀x∈l,zrX x)/\Hid (xk l (xh (zph zs) (m-i) u)=xh (zph zs) m u2)/\Hid (RC p a c zs bx g m w u [.int .i64 C,.int .i64 0,.int .i64 0,.slice (some ⟨g,0,none⟩) m m,.int .i64 0] l wr)) (fun q _ _=>m-(intOf q).toNat)
    case atStart=>
     refine⟨0,u2,[],rfl,zon _,rfl,fun x hx=>(by simp at hx),?_,CL⟩
     show xk [] (xh (zph zs) m u2)=_;cases xh (zph zs) m u2 with
     |error e=>rfl
     |ok y=>rfl
    case round=>
     obtain⟨i,u,l,rfl,HI,HX,G,HL,D⟩:=hrel;clear CL;by_cases a1:i<m
     ·have a3:(i:Int)<(m:Int):=by omega
      have HD:Hid (RC p a c zs bx g m w u [.int .i64 C,.int .i64 0,.int .i64 0,.slice (some ⟨g,0,none⟩) m m,.int .i64 0] l wr.drew):=D.out.read (Rn.of (zof _ _).drew) (D.out.st.rd.step (zof _ _).drew);have HF:=hid (zuJ HD.out.st.rd);have c3:=D.out.st.box.cell (i:=3) rfl;have d3:=HD.out.st.box.cell (i:=3) rfl;have lb:=D.out.st.box.lt;go_wp2_with fail
      go_region_with (go_at_call 148;refine HF.out.mono ?_;rintro e w3 ⟨F,j⟩;have J:=HL.out;rw[show m-i=(m-i-1)+1 by omega]at J;rcases f:zph zs u with e|⟨x,u'⟩;(focus (rw[zo5 _ _ _ _ e f]at J;rw[f]at j;obtain rfl:=j;exact yl (P:=Tryz.prog) (fn:=Tryz.f117) (by rw[A.out,<-J];exact⟨HD.out.st.rn.trans F,rfl⟩) rfl));rw[zo4 _ _ _ _ x u' f]at J;rw[f]at j;obtain⟨_,rfl,⟨rfl,L⟩,j⟩:=j;have k:=HD.out.read F j;have s:=HX.out;have b3:=k.st.box.cell (i:=3) rfl;obtain⟨o0,k0⟩:=k.row.some (o:=i*3) (by omega);obtain⟨o1,k1⟩:=k.row.some (o:=i*3+1) (by omega);obtain⟨o2,k2⟩:=k.row.some (o:=i*3+2) (by omega);have z0:=k.row.fz (i*3);have z1:=k.row.fz (i*3+1);have z2:=k.row.fz (i*3+2);have kl:=k.row.lt;have c4:=k.st.box.lt;have T:=k.more (by omega) x;rw[s]at T;have T:=hid T;have a0:Hid (xk (l++[x]) (xh (zph zs) (m-(i+1)) u')=xh (zph zs) m u2):=(by show _=_;rw[<-J,show m-(i+1)=m-i-1 by omega]);have a2:Hid ((l++[x]).length=i+1):=(by show _=_;rw[List.length_append,s];rfl);have K:Hid (∀y∈l++[x],zrX y):=(zrY G.out L);have c2:=b9.out;clear HF F j J f k s L)
      all_goals
       go_wp2;go_roundw
       case rel=>exact⟨i+1,u',l++[x],zhs (by omega),hid a1,a2,K,a0,T⟩
       case measure=>simp[intOf];omega
     ·have a3:¬(i:Int)<(m:Int):=by omega
      have e3:m-i=0:=by omega
      have s:l.length=m:=by have h1:=HX.out;have h2:=HI.out;omega
      have E:Hid (xh (zph zs) m u2=.ok (l,u)):=by
       show _=_;rw[<-HL.out,e3];show xk l (.ok ([],u))=_;simp[xk]
      have H:=hid s;have M:=hid (zpb D.out.st.rd);clear HL HX e3 s;go_wp2_with fail
      refine M.out.mono ?_;rintro e w5 ⟨B,d⟩;cases f:ke zs u with
      |error e=>
       rw[f]at d;obtain rfl:=d;exact yl (P:=Tryz.prog) (fn:=Tryz.f117) (by rw[A.out,E.out];unfold y7;dsimp only;rw[f];exact⟨D.out.st.rn.trans B,rfl⟩) rfl
      |ok y=>
       obtain⟨I,u5⟩:=y;rw[f]at d;obtain⟨_,rfl,⟨rfl,Q⟩,d⟩:=d;have r:=D.out.read B d;have N:=((((((r.put 4 (.int .i64 I) rfl (fun n h=>by cases h)).put 0 (.int .i64 C) rfl (fun n h=>by cases h)).put 1 (.int .i64 0) rfl (fun n h=>by cases h)).put 2 (.int .i64 0) rfl (fun n h=>by cases h)).put 3 (.slice (some ⟨g,0,none⟩) m m) rfl (fun n h=>by cases h)).put 4 (.int .i64 I) rfl (fun n h=>by cases h))
       have HE:Hid (ka p a c zs (zsk w) (zk0 zs t) w (.returned (.agg #[.int .i64 C,.int .i64 0,.int .i64 0,.slice (some ⟨g,0,none⟩) m m,.int .i64 I])) ((((((w5.setCell ⟨bx,4,none⟩ (.int .i64 I)).setCell ⟨bx,0,none⟩ (.int .i64 C)).setCell ⟨bx,1,none⟩ (.int .i64 0)).setCell ⟨bx,2,none⟩ (.int .i64 0)).setCell ⟨bx,3,none⟩ (.slice (some ⟨g,0,none⟩) m m)).setCell ⟨bx,4,none⟩ (.int .i64 I))):=by
        show ka _ _ _ _ _ _ _ _ _;rw[A.out,E.out];unfold y7;dsimp only;rw[f];exact⟨N.st.rn,_,rfl,⟨_,rfl,⟨g,by rw[H.out],N.gn,by rw[H.out];exact N.row,G.out⟩,c1.out,WZ.out,WZ.out,Q⟩,N.st.rd⟩
       have b0:=r.st.box.cell (i:=0) rfl;have b1:=r.st.box.cell (i:=1) rfl;have b2:=r.st.box.cell (i:=2) rfl;have b3:=r.st.box.cell (i:=3) rfl;have b4:=r.st.box.cell (i:=4) rfl;have z0:=r.st.box.fz 0;have z1:=r.st.box.fz 1;have z2:=r.st.box.fz 2;have z3:=r.st.box.fz 3;have z4:=r.st.box.fz 4;have l5:=r.st.box.lt;clear M B d f Q r N D E A G H;go_wp2;exact bodyPost_ret (v:=.agg #[.int .i64 C,.int .i64 0,.int .i64 0,.slice (some ⟨g,0,none⟩) m m,.int .i64 I]) (by simp[results,Tryz.results117,go_sem, *]) rfl HE.out
   ·have c5:(0:Int)<(m:Int):=by omega
    have a4:=hid O;have b5:=hid (zra U.out.st.rd);clear O;go_wp2_with fail
    refine b5.out.mono ?_;rintro e w4 ⟨B,d⟩;cases f:jp zs u2 with
    |error e=>
     rw[f]at d;obtain rfl:=d;exact yl (P:=Tryz.prog) (fn:=Tryz.f117) (by unfold zk0;rw[Q1.out];unfold y7;dsimp only;rw[Q2.out];dsimp only;rw[if_neg a4.out,f];exact⟨U.out.st.rn.trans B,rfl⟩) rfl
    |ok y=>
     obtain⟨⟨S,R⟩,V⟩:=y;rw[f]at d;obtain⟨_,rfl,⟨rfl,hw⟩,d⟩:=d;dsimp only at hw;have k:=U.out.read B d;have Z:=hid hw;have A:Hid (zk0 zs t=y7 (xh (zph zs) m V) fun cs u4=>y7 (ke zs u4) fun el u5=>.ok (⟨C,(S,R),cs,el⟩,u5)):=by
      show _=_;unfold zk0;rw[Q1.out];unfold y7;dsimp only;rw[Q2.out];dsimp only;rw[if_neg a4.out,f]
     have b1:=k.st.box.cell (i:=1) rfl;have z1:=k.st.box.fz 1;have b2:=k.st.box.cell (i:=2) rfl;have z2:=k.st.box.fz 2;have l3:=k.st.box.lt;obtain⟨V3,eV3⟩:∃W,W=((w4.setCell ⟨bx,1,none⟩ (.int .i64 S)).setCell ⟨bx,2,none⟩ (.int .i64 R)):=⟨_,rfl⟩;have CL:Hid (RC p a c zs bx g m w V [.int .i64 C,.int .i64 S,.int .i64 R,.slice (some ⟨g,0,none⟩) m m,.int .i64 0] [] V3):=by rw[eV3];exact(k.put 1 (.int .i64 S) rfl (fun n h=>by cases h)).put 2 (.int .i64 R) rfl (fun n h=>by cases h)
     have Y:=hid eV3;clear b5 B d f k eV3 hw U c3 lc Q1 Q2;go_upto_region 5 with fail
     rw[<-Y.out];clear Y b1 z1 b2 z2 l3;have c3:=CL.out.st.box.cell (i:=3) rfl;have lc:=CL.out.st.box.lt;go_wp2_with fail
     clear c3 lc;go_loopw [21,3] (fun q _ wr=>∃(i u:Nat) (l:List (Int × Int × Int)),q=.int .i64 (i:Int)/\Hid (i<=m)/\Hid (l.length=i)/\Hid (∀x∈l,zrX x)/\Hid (xk l (xh (zph zs) (m-i) u)=xh (zph zs) m V)/\Hid (RC p a c zs bx g m w u [.int .i64 C,.int .i64 S,.int .i64 R,.slice (some ⟨g,0,none⟩) m m,.int .i64 0] l wr)) (fun q _ _=>m-(intOf q).toNat)
     case atStart=>
      refine⟨0,V,[],rfl,zon _,rfl,fun x hx=>(by simp at hx),?_,CL⟩
      show xk [] (xh (zph zs) m V)=_;cases xh (zph zs) m V with
      |error e=>rfl
      |ok y=>rfl
     case round=>
      obtain⟨i,u,l,rfl,HI,HX,G,HL,D⟩:=hrel;clear CL;by_cases a1:i<m
      ·have a3:(i:Int)<(m:Int):=by omega
       have HD:Hid (RC p a c zs bx g m w u [.int .i64 C,.int .i64 S,.int .i64 R,.slice (some ⟨g,0,none⟩) m m,.int .i64 0] l wr.drew):=D.out.read (Rn.of (zof _ _).drew) (D.out.st.rd.step (zof _ _).drew);have HF:=hid (zuJ HD.out.st.rd);have c3:=D.out.st.box.cell (i:=3) rfl;have d3:=HD.out.st.box.cell (i:=3) rfl;have lb:=D.out.st.box.lt;go_wp2_with fail
       go_region_with (go_at_call 148;refine HF.out.mono ?_;rintro e w3 ⟨F,j⟩;have J:=HL.out;rw[show m-i=(m-i-1)+1 by omega]at J;rcases f:zph zs u with e|⟨x,u'⟩;(focus (rw[zo5 _ _ _ _ e f]at J;rw[f]at j;obtain rfl:=j;exact yl (P:=Tryz.prog) (fn:=Tryz.f117) (by rw[A.out,<-J];exact⟨HD.out.st.rn.trans F,rfl⟩) rfl));rw[zo4 _ _ _ _ x u' f]at J;rw[f]at j;obtain⟨_,rfl,⟨rfl,L⟩,j⟩:=j;have k:=HD.out.read F j;have s:=HX.out;have b3:=k.st.box.cell (i:=3) rfl;obtain⟨o0,k0⟩:=k.row.some (o:=i*3) (by omega);obtain⟨o1,k1⟩:=k.row.some (o:=i*3+1) (by omega);obtain⟨o2,k2⟩:=k.row.some (o:=i*3+2) (by omega);have z0:=k.row.fz (i*3);have z1:=k.row.fz (i*3+1);have z2:=k.row.fz (i*3+2);have kl:=k.row.lt;have c4:=k.st.box.lt;have T:=k.more (by omega) x;rw[s]at T;have T:=hid T;have a0:Hid (xk (l++[x]) (xh (zph zs) (m-(i+1)) u')=xh (zph zs) m V):=(by show _=_;rw[<-J,show m-(i+1)=m-i-1 by omega]);have a2:Hid ((l++[x]).length=i+1):=(by show _=_;rw[List.length_append,s];rfl);have K:Hid (∀y∈l++[x],zrX y):=(zrY G.out L);have c2:=b9.out;clear HF F j J f k s L)
       all_goals
        go_wp2;go_roundw
        case rel=>exact⟨i+1,u',l++[x],zhs (by omega),hid a1,a2,K,a0,T⟩
        case measure=>simp[intOf];omega
      ·have a3:¬(i:Int)<(m:Int):=by omega
       have e3:m-i=0:=by omega
       have s:l.length=m:=by have h1:=HX.out;have h2:=HI.out;omega
       have E:Hid (xh (zph zs) m V=.ok (l,u)):=by
        show _=_;rw[<-HL.out,e3];show xk l (.ok ([],u))=_;simp[xk]
       have H:=hid s;have M:=hid (zpb D.out.st.rd);clear HL HX e3 s;go_wp2_with fail
       refine M.out.mono ?_;rintro e w5 ⟨B,d⟩;cases f:ke zs u with
       |error e=>
        rw[f]at d;obtain rfl:=d;exact yl (P:=Tryz.prog) (fn:=Tryz.f117) (by rw[A.out,E.out];unfold y7;dsimp only;rw[f];exact⟨D.out.st.rn.trans B,rfl⟩) rfl
       |ok y=>
        obtain⟨I,u5⟩:=y;rw[f]at d;obtain⟨_,rfl,⟨rfl,Q⟩,d⟩:=d;have r:=D.out.read B d;have N:=((((((r.put 4 (.int .i64 I) rfl (fun n h=>by cases h)).put 0 (.int .i64 C) rfl (fun n h=>by cases h)).put 1 (.int .i64 S) rfl (fun n h=>by cases h)).put 2 (.int .i64 R) rfl (fun n h=>by cases h)).put 3 (.slice (some ⟨g,0,none⟩) m m) rfl (fun n h=>by cases h)).put 4 (.int .i64 I) rfl (fun n h=>by cases h))
        have HE:Hid (ka p a c zs (zsk w) (zk0 zs t) w (.returned (.agg #[.int .i64 C,.int .i64 S,.int .i64 R,.slice (some ⟨g,0,none⟩) m m,.int .i64 I])) ((((((w5.setCell ⟨bx,4,none⟩ (.int .i64 I)).setCell ⟨bx,0,none⟩ (.int .i64 C)).setCell ⟨bx,1,none⟩ (.int .i64 S)).setCell ⟨bx,2,none⟩ (.int .i64 R)).setCell ⟨bx,3,none⟩ (.slice (some ⟨g,0,none⟩) m m)).setCell ⟨bx,4,none⟩ (.int .i64 I))):=by
         show ka _ _ _ _ _ _ _ _ _;rw[A.out,E.out];unfold y7;dsimp only;rw[f];exact⟨N.st.rn,_,rfl,⟨_,rfl,⟨g,by rw[H.out],N.gn,by rw[H.out];exact N.row,G.out⟩,c1.out,Z.out.1,Z.out.2,Q⟩,N.st.rd⟩
        have b0:=r.st.box.cell (i:=0) rfl;have b1:=r.st.box.cell (i:=1) rfl;have b2:=r.st.box.cell (i:=2) rfl;have b3:=r.st.box.cell (i:=3) rfl;have b4:=r.st.box.cell (i:=4) rfl;have z0:=r.st.box.fz 0;have z1:=r.st.box.fz 1;have z2:=r.st.box.fz 2;have z3:=r.st.box.fz 3;have z4:=r.st.box.fz 4;have l5:=r.st.box.lt;clear M B d f Q r N D E A G H;go_wp2;exact bodyPost_ret (v:=.agg #[.int .i64 C,.int .i64 S,.int .i64 R,.slice (some ⟨g,0,none⟩) m m,.int .i64 I]) (by simp[results,Tryz.results117,go_sem, *]) rfl HE.out
theorem xU{α :Type}{L:List α}{f: α->Int}{k:Nat}{x: α}(h:L[k]?=some x):zn ((L.drop k).map f)=if f x≠0 then f x else zn ((L.drop (k+1)).map f):=by
 obtain⟨a,e⟩:=zok.1 h;rw[zoM a,e];rfl
theorem zko(d:PlanD)(x:ActD)(w:World)(hl:d.lie w)(E:Has .i64 w x.w.a x.w.n x.ws)(H:QRow 5 OpD.lie w x.ops x.os)(hp:∀r,0<=d.p.width r []):
 Calls Tryz.prog 24 #[d.v,.agg #[.slice x.w.a x.w.n x.w.c,.slice x.ops.a x.ops.n x.ops.c]] w fun e w'=>e=.returned (.int .i64 (ki d.p x.p))/\Below w.heap.size w w':=by
 have i:Hid (ki d.p x.p=if 3<x.ws.length\/5<x.os.length then 2 else or2 (zn (x.ws.map xC)) (zn (x.os.map (fun o=>zx d.p x.ws o.p)))):=by
  show ki d.p x.p=_;unfold ki ActD.p;simp only[zoE,List.map_map];rfl
 have I:=hid E.1;have D:=hid H.1;obtain⟨s,hW⟩:∃s,s=((w.alloc (.cells #[.slice d.heads.a d.heads.n d.heads.c,.slice d.mta.a d.mta.n d.mta.c,.slice d.states.a d.states.n d.states.c,.slice d.acts.a d.acts.n d.acts.c,.slice d.tabs.a d.tabs.n d.tabs.c,.slice d.nodes.a d.nodes.n d.nodes.c,.slice d.out.a d.out.n d.out.c] 29)).alloc (.cells #[.slice x.w.a x.w.n x.w.c,.slice x.ops.a x.ops.n x.ops.c] 56)):=⟨_,rfl⟩;obtain⟨B,h0⟩:∃B,B=w.heap.size:=⟨_,rfl⟩;obtain⟨T,h1⟩:∃T,T=w.heap.size+1:=⟨_,rfl⟩;have z0:s.cell? ⟨B,0,none⟩=some (.slice d.heads.a d.heads.n d.heads.c):=by rw[hW,h0];exact(zoe _ _ _ (by simp)).trans ((zod _ _ _ _ rfl).trans rfl)
 have z1:s.cell? ⟨B,1,none⟩=some (.slice d.mta.a d.mta.n d.mta.c):=by rw[hW,h0];exact(zoe _ _ _ (by simp)).trans ((zod _ _ _ _ rfl).trans rfl)
 have z2:s.cell? ⟨B,2,none⟩=some (.slice d.states.a d.states.n d.states.c):=by rw[hW,h0];exact(zoe _ _ _ (by simp)).trans ((zod _ _ _ _ rfl).trans rfl)
 have U:s.cell? ⟨B,3,none⟩=some (.slice d.acts.a d.acts.n d.acts.c):=by rw[hW,h0];exact(zoe _ _ _ (by simp)).trans ((zod _ _ _ _ rfl).trans rfl)
 have z4:s.cell? ⟨B,4,none⟩=some (.slice d.tabs.a d.tabs.n d.tabs.c):=by rw[hW,h0];exact(zoe _ _ _ (by simp)).trans ((zod _ _ _ _ rfl).trans rfl)
 have W:s.cell? ⟨B,5,none⟩=some (.slice d.nodes.a d.nodes.n d.nodes.c):=by rw[hW,h0];exact(zoe _ _ _ (by simp)).trans ((zod _ _ _ _ rfl).trans rfl)
 have z6:s.cell? ⟨B,6,none⟩=some (.slice d.out.a d.out.n d.out.c):=by rw[hW,h0];exact(zoe _ _ _ (by simp)).trans ((zod _ _ _ _ rfl).trans rfl)
 have y0:s.cell? ⟨T,0,none⟩=some (.slice x.w.a x.w.n x.w.c):=by rw[hW,h1];exact(zod _ _ _ _ (by simp)).trans rfl
 have Q:s.cell? ⟨T,1,none⟩=some (.slice x.ops.a x.ops.n x.ops.c):=by rw[hW,h1];exact(zod _ _ _ _ (by simp)).trans rfl
 have R:Hid (Below w.heap.size w s):=by rw[hW];exact ze (ze (zof _ _))
 have E3:=hid hW;have E0:=hid h0;have E1:=hid h1;have HL:=hid hl;have HW:=hid E;have HO:=hid H;have HP:=hid hp;clear hW h0 h1 hl E H hp;by_cases N:(3:Int)<(x.w.n:Int)
 ·have d3:=zoY N;rw[if_pos (.inl (by rw[I.out];omega))]at i
  clear N;go_enter Tryz.func24,Tryz.ntmps24
  go_wp2;go_ret;exact⟨by rw[i.out];rfl,ze (ze (zof _ _))⟩
 have d3:=zoX N;by_cases S:(5:Int)<(x.ops.n:Int)
 ·have d5:=zoY S;rw[if_pos (.inr (by rw[D.out];omega))]at i
  clear N S;go_enter Tryz.func24,Tryz.ntmps24
  go_wp2;go_ret;exact⟨by rw[i.out];rfl,ze (ze (zof _ _))⟩
 have d5:=zoX S;rw[if_neg (by rw[I.out,D.out];omega)]at i
 have b2:x.w.n<=3:=by omega
 have b7:x.ops.n<=5:=by omega
 clear N S;go_enter Tryz.func24,Tryz.ntmps24
 go_wp2;rw[<-E3.out,<-E1.out,<-E0.out];clear E3 E1 E0 d3 d5;go_loopw [5] (fun q wr=>∃k:Nat,k<=x.w.n/\q=.int .i64 k/\Hid (zn (x.ws.map xC)=zn ((x.ws.drop k).map xC))/\Hid (s=wr)) (fun q _=>x.w.n-(intOf q).toNat)
 case atStart=>exact⟨0,zon _,rfl,rfl,rfl⟩
 case round=>
  obtain⟨k,hk,rfl,b,M⟩:=hrel;obtain rfl:=M.out;clear M;by_cases a0:k<x.w.n
  ·obtain⟨g,off,u,ea,hu,r0⟩:=zaL (HW.out.step R.out) a0;have Y:(k:Int)<(x.w.n:Int):=by omega
   have m:=xU (f:=xC) hu;clear hu;by_cases K:u<1
   ·have f1:=zoY K;have y:Hid (ki d.p x.p=6):=by
     show ki d.p x.p=6;rw[i.out,b.out,m,show xC u=6 from if_pos (.inl K)]
     rfl
    clear m b K;go_wp2;go_ret;exact⟨by rw[y.out];rfl,R.out⟩
   have f1:=zoX K;by_cases P:48<u
   ·have f2:=zoY P;have y:Hid (ki d.p x.p=6):=by
     show ki d.p x.p=6;rw[i.out,b.out,m,show xC u=6 from if_pos (.inr P)]
     rfl
    clear m b K P;go_wp2;go_ret;exact⟨by rw[y.out];rfl,R.out⟩
   ·have f2:=zoX P;have y:Hid (zn (x.ws.map xC)=zn ((x.ws.drop (k+1)).map xC)):=by
     show zn (x.ws.map xC)=_;rw[b.out,m,show xC u=0 from if_neg (by omega)]
     rfl
    clear m b K P;go_wp2;go_roundw
    case rel=>exact⟨k+1,by omega,by go_num,y,trivial⟩
    case measure=>simp[intOf];omega
  ·have ek:k=x.w.n:=by omega
   have L:Hid (ki d.p x.p=zn (x.os.map (fun o=>zx d.p x.ws o.p))):=by
    show ki d.p x.p=_;have:zn (x.ws.map xC)=0:=by rw[b.out,ek,<-I.out,zoP];rfl
    rw[i.out,this];rfl
   have Y:¬(k:Int)<(x.w.n:Int):=by omega
   have O:Hid (Below s.heap.size s s):=zof _ _;clear b i ek;go_wp2;go_loopw [6,7] (fun q _ wr=>∃j:Nat,j<=x.ops.n/\q=.int .i64 j/\Hid (zn (x.os.map (fun o=>zx d.p x.ws o.p))=zn ((x.os.drop j).map (fun o=>zx d.p x.ws o.p)))/\Hid (Below s.heap.size s wr)) (fun q _ _=>x.ops.n-(intOf q).toNat)
   case atStart=>exact⟨0,zon _,rfl,rfl,O⟩
   case round=>
    obtain⟨j,hj,rfl,b,l⟩:=hrel;clear O;have G:=hid (zh R.out l.out);have z0:=za z0 l.out;have z1:=za z1 l.out;have z2:=za z2 l.out;have U:=za U l.out;have z4:=za z4 l.out;have W:=za W l.out;have z6:=za z6 l.out;have y0:=za y0 l.out;have Q:=za Q l.out;by_cases Z:j<x.ops.n
    ·obtain⟨g,off,o,ea,ho,⟨q0,_⟩,⟨q1,_⟩,⟨q2,_⟩,⟨q3,_⟩,⟨q4,_⟩,he⟩:=zu (HO.out.step OpD.keeps G.out) Z;have V:(j:Int)<(x.ops.n:Int):=by omega
     have m:=xU (f:=fun o=>zx d.p x.ws o.p) ho
     have HD:Hid (∀p:zq wr,Calls Tryz.prog 68 #[d.v,o.v,.slice x.w.a x.w.n x.w.c] p.to fun e w'=>e=.returned (.int .i64 (zx d.p x.ws o.p))/\Below p.to.heap.size p.to w'):=fun p=>zih d o x.w.a x.w.n x.w.c x.ws p.to (HL.out.step (zh G.out p.h)) (HW.out.step (zh G.out p.h)) (he.step PushD.keeps p.h) (HP.out o.r)
     rw[ea]at Q;have b5:=zm z0;have a3:=zm z1;have a8:=zm z2;have a7:=zm U;have a1:=zm z4;have a4:=zm W;have a5:=zm z6;have b8:=zm y0;have a2:=zm Q;have b3:=zm q0;have b4:=zm q1;have b6:=zm q2;have a9:=zm q3;have a6:=zm q4;clear ho he;generalize zx d.p x.ws o.p=C at*;by_cases J:C=0
     ·have y:Hid (zn (x.os.map (fun o=>zx d.p x.ws o.p))=zn ((x.os.drop (j+1)).map (fun o=>zx d.p x.ws o.p))):=by
       show zn (x.os.map (fun o=>zx d.p x.ws o.p))=_
       rw[b.out,m,if_neg (by simpa using J)]
      have bC:(C !=0)=false:=by simpa using J
      clear m b J;go_wp2_with fail
      haveI inhB:∀w:World,Inhabited (zq w):=fun w=>⟨⟨w,zof _ _⟩⟩
      refine zi (by kernel_rfl) (by kernel_rfl) ?_
      repeat (go_big_quiet_step (first|(go_at_call 68;exact zT _ (HD.out _))))
      refine wpQuiet_nil ?_;intro wq F;obtain⟨⟨_,A⟩,t⟩:=F;subst t;have X:=hid (zh l.out A);clear A HD l G;go_wp2;go_roundw
      case rel=>exact⟨j+1,by omega,by go_num,y,X⟩
      case measure=>simp[intOf];omega
     ·have y:Hid (ki d.p x.p=C):=by
       show ki d.p x.p=C;rw[L.out,b.out,m,if_pos J]
      have bC:(C !=0)=true:=by simpa using J
      clear m b J;go_wp2_with fail
      haveI inhB:∀w:World,Inhabited (zq w):=fun w=>⟨⟨w,zof _ _⟩⟩
      refine zi (by kernel_rfl) (by kernel_rfl) ?_
      repeat (go_big_quiet_step (first|(go_at_call 68;exact zT _ (HD.out _))))
      refine wpQuiet_nil ?_;intro wq F;obtain⟨⟨_,A⟩,t⟩:=F;subst t;have X:=hid (zh G.out A);clear A HD l G;go_wp2;go_ret;exact⟨by rw[y.out];rfl,X.out⟩
    ·have ej:j=x.ops.n:=by omega
     have V:¬(j:Int)<(x.ops.n:Int):=by omega
     have y:Hid (ki d.p x.p=0):=by
      show ki d.p x.p=0;rw[L.out,b.out,ej,<-D.out,zoP];rfl
     clear b ej;go_wp2;go_ret;exact⟨by rw[y.out];rfl,G.out⟩
end Go.Proofs.YtbmcgbmegcpgnaaGreat
