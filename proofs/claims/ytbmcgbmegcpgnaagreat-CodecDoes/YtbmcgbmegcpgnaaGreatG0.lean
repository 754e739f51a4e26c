import Derived.Test.YtbmcgbmegcpgnaaGreatVBase
import Derived.Deep.Slices
import Derived.ProofKit
set_option maxHeartbeats 200000
set_option maxRecDepth 20000
set_option linter.unusedSimpArgs false
namespace Go.Proofs.YtbmcgbmegcpgnaaGreat
open Go.RowKit
structure QSl where
 a : Option Addr
 n : Nat
 c : Nat
def QSl.nil0(s:QSl):Prop:=s.a=none->s.n=0/\s.c=0
def CI(w:World)(g o:Nat)(n:Int):Prop:=w.cell? ⟨g,o,none⟩=some (.int .i64 n)/\(Lit.int .i64 n).wf=true
def CU(w:World)(g o:Nat)(n:Int):Prop:=w.cell? ⟨g,o,none⟩=some (.int .u64 n)/\(Lit.int .u64 n).wf=true
def CS(w:World)(g o:Nat)(s:QSl):Prop:=w.cell? ⟨g,o,none⟩=some (.slice s.a s.n s.c)/\s.nil0
theorem za{w w':World}{g o:Nat}{v:Value}(h:w.cell? ⟨g,o,none⟩=some v)(b:Below w.heap.size w w'):w'.cell? ⟨g,o,none⟩=some v:=
 (b.cell (p:=⟨g,o,none⟩) (zog w _ h)).trans h
theorem CI.step{w w':World}{g o:Nat}{n:Int}(h:CI w g o n)(b:Below w.heap.size w w'):CI w' g o n:=⟨za h.1 b,h.2⟩
theorem CU.step{w w':World}{g o:Nat}{n:Int}(h:CU w g o n)(b:Below w.heap.size w w'):CU w' g o n:=⟨za h.1 b,h.2⟩
theorem CS.step{w w':World}{g o:Nat}{s:QSl}(h:CS w g o s)(b:Below w.heap.size w w'):CS w' g o s:=⟨za h.1 b,h.2⟩
def QRow{α :Type}(k:Nat)(P: α->World->Nat->Nat->Prop)(w:World)(s:QSl)(S:List α):Prop:=
 S.length=s.n/\∀(i:Nat) (d: α),S[i]?=some d->∃g off,s.a=some ⟨g,off,none⟩/\P d w g (off+i*k)
def jw{α :Type}(P: α->World->Nat->Nat->Prop):Prop:=∀{d: α} {w w':World} {g o:Nat},P d w g o->Below w.heap.size w w'->P d w' g o
theorem QRow.step{α :Type}{k:Nat}{P: α->World->Nat->Nat->Prop}{w w':World}{s:QSl}{S:List α}(h:QRow k P w s S)(f:jw P)(b:Below w.heap.size w w'):QRow k P w' s S:=
 ⟨h.1,fun i d a=>by obtain⟨g,off,e,c⟩:=h.2 i d a;exact⟨g,off,e,f c b⟩⟩
structure RefD where
 h : Int
 f : Int
def RefD.lie(d:RefD)(w:World)(g o:Nat):Prop:=CI w g o d.h/\CI w g (o+1) d.f
theorem RefD.keeps:jw RefD.lie:=fun h b=>⟨h.1.step b,h.2.step b⟩
structure PushD where
 op : Int
 r : RefD
 n : Int
def PushD.lie(d:PushD)(w:World)(g o:Nat):Prop:=CI w g o d.op/\CI w g (o+1) d.r.h/\CI w g (o+2) d.r.f/\CU w g (o+3) d.n
theorem PushD.keeps:jw PushD.lie:=fun h b=>⟨h.1.step b,h.2.1.step b,h.2.2.1.step b,h.2.2.2.step b⟩
structure CaseD where
 value : Int
 mask : Int
 to : Int
def CaseD.lie(d:CaseD)(w:World)(g o:Nat):Prop:=CU w g o d.value/\CU w g (o+1) d.mask/\CI w g (o+2) d.to
theorem CaseD.keeps:jw CaseD.lie:=fun h b=>⟨h.1.step b,h.2.1.step b,h.2.2.step b⟩
structure HeadD where
 w : QSl
 ws : List Int
def HeadD.lie(d:HeadD)(w:World)(g o:Nat):Prop:=CS w g o d.w/\Has .i64 w d.w.a d.w.n d.ws
@[reducible] def HeadD.z:HeadD:=⟨⟨none,0,0⟩,[]⟩
theorem HeadD.keeps:jw HeadD.lie:=fun h b=>⟨h.1.step b,h.2.step b⟩
structure StateD where
 head : Int
 r : RefD
 cases : QSl
 cs : List CaseD
 els : Int
def StateD.lie(d:StateD)(w:World)(g o:Nat):Prop:=CI w g o d.head/\CI w g (o+1) d.r.h/\CI w g (o+2) d.r.f/\CS w g (o+3) d.cases/\CI w g (o+4) d.els/\QRow 3 CaseD.lie w d.cases d.cs
theorem StateD.keeps:jw StateD.lie:=fun h b=>⟨h.1.step b,h.2.1.step b,h.2.2.1.step b,h.2.2.2.1.step b,h.2.2.2.2.1.step b,h.2.2.2.2.2.step CaseD.keeps b⟩
structure OpD where
 kind : Int
 r : RefD
 head : Int
 e : QSl
 es : List PushD
def OpD.lie(d:OpD)(w:World)(g o:Nat):Prop:=CI w g o d.kind/\CI w g (o+1) d.r.h/\CI w g (o+2) d.r.f/\CI w g (o+3) d.head/\CS w g (o+4) d.e/\QRow 4 PushD.lie w d.e d.es
theorem OpD.keeps:jw OpD.lie:=fun h b=>⟨h.1.step b,h.2.1.step b,h.2.2.1.step b,h.2.2.2.1.step b,h.2.2.2.2.1.step b,h.2.2.2.2.2.step PushD.keeps b⟩
structure ActD where
 w : QSl
 ws : List Int
 ops : QSl
 os : List OpD
def ActD.lie(d:ActD)(w:World)(g o:Nat):Prop:=CS w g o d.w/\CS w g (o+1) d.ops/\Has .i64 w d.w.a d.w.n d.ws/\QRow 5 OpD.lie w d.ops d.os
@[reducible] def ActD.z:ActD:=⟨⟨none,0,0⟩,[],⟨none,0,0⟩,[]⟩
theorem ActD.keeps:jw ActD.lie:=fun h b=>⟨h.1.step b,h.2.1.step b,h.2.2.1.step b,h.2.2.2.step OpD.keeps b⟩
structure TabD where
 kind : Int
 keys : QSl
 ks : List RefD
 acts : QSl
 al : List Int
 cap : Int
 dflt : Int
 args : QSl
 zs : List Int
def TabD.lie(d:TabD)(w:World)(g o:Nat):Prop:=CI w g o d.kind/\CS w g (o+1) d.keys/\CS w g (o+2) d.acts/\CI w g (o+3) d.cap/\CI w g (o+4) d.dflt/\CS w g (o+5) d.args/\
 QRow 2 RefD.lie w d.keys d.ks/\Has .i64 w d.acts.a d.acts.n d.al/\Has .u64 w d.args.a d.args.n d.zs
theorem TabD.keeps:jw TabD.lie:=fun h b=>⟨h.1.step b,h.2.1.step b,h.2.2.1.step b,h.2.2.2.1.step b,h.2.2.2.2.1.step b,h.2.2.2.2.2.1.step b,h.2.2.2.2.2.2.1.step RefD.keeps b,h.2.2.2.2.2.2.2.1.step b,h.2.2.2.2.2.2.2.2.step b⟩
structure NodeD where
 kind : Int
 n : Int
 e : QSl
 es : List PushD
 yes : Int
 no : Int
def NodeD.lie(d:NodeD)(w:World)(g o:Nat):Prop:=CI w g o d.kind/\CI w g (o+1) d.n/\CS w g (o+2) d.e/\CI w g (o+3) d.yes/\CI w g (o+4) d.no/\QRow 4 PushD.lie w d.e d.es
theorem NodeD.keeps:jw NodeD.lie:=fun h b=>⟨h.1.step b,h.2.1.step b,h.2.2.1.step b,h.2.2.2.1.step b,h.2.2.2.2.1.step b,h.2.2.2.2.2.step PushD.keeps b⟩
structure PlanD where
 heads : QSl
 hs : List HeadD
 mta : QSl
 ms : List Int
 states : QSl
 ss : List StateD
 acts : QSl
 al : List ActD
 tabs : QSl
 ts : List TabD
 nodes : QSl
 ns : List NodeD
 out : QSl
 os : List Int
structure PlanD.lie (d : PlanD) (w : World) : Prop where
 hs : QRow 1 HeadD.lie w d.heads d.hs
 ms : Has .i64 w d.mta.a d.mta.n d.ms
 ss : QRow 5 StateD.lie w d.states d.ss
 al : QRow 2 ActD.lie w d.acts d.al
 ts : QRow 6 TabD.lie w d.tabs d.ts
 ns : QRow 5 NodeD.lie w d.nodes d.ns
 os : Has .i64 w d.out.a d.out.n d.os
 oc : d.out.n <= d.out.c
structure PlanD.nil0 (d : PlanD) : Prop where
 hs : d.heads.nil0
 ms : d.mta.nil0
 ss : d.states.nil0
 al : d.acts.nil0
 ts : d.tabs.nil0
 ns : d.nodes.nil0
 os : d.out.nil0
theorem PlanD.lie.step{d:PlanD}{w w':World}(h:d.lie w)(b:Below w.heap.size w w'):d.lie w':=
 ⟨h.hs.step HeadD.keeps b,h.ms.step b,h.ss.step StateD.keeps b,h.al.step ActD.keeps b,h.ts.step TabD.keeps b,h.ns.step NodeD.keeps b,h.os.step b,h.oc⟩
@[reducible] def PlanD.v(d:PlanD):Value:=.agg #[.slice d.heads.a d.heads.n d.heads.c,.slice d.mta.a d.mta.n d.mta.c,.slice d.states.a d.states.n d.states.c,.slice d.acts.a d.acts.n d.acts.c,.slice d.tabs.a d.tabs.n d.tabs.c,.slice d.nodes.a d.nodes.n d.nodes.c,.slice d.out.a d.out.n d.out.c]
def IsRow(k:IntKind)(w:World)(a:Option Addr)(len cap:Nat)(zs:List Int):Prop:=
 (a=none/\len=0/\cap=0/\zs=[])\/
 ∃x,a=some x/\len<=cap/\cap<=maxLen/\zs.length=cap/\(∀i,i<zs.length->w.cell? (x.add i)=some (.int k (zs.getD i 0)))/\∀n∈zs,(Lit.int k n).wf=true
theorem IsRow.has{k:IntKind}{w:World}{a:Option Addr}{len cap:Nat}{zs:List Int}(h:IsRow k w a len cap zs):Has k w a len (zs.take len):=by
 rcases h with⟨rfl,rfl,rfl,rfl⟩|⟨x,rfl,o,q,hz,c,g⟩
 ·exact⟨rfl,by simp,.inl rfl⟩
 ·refine⟨by rw[List.length_take];omega,fun n m=>g n (List.mem_of_mem_take m),?_⟩
  by_cases l:len=0
  ·subst l;exact .inl (by simp)
  ·obtain⟨b,off,f⟩:=x;have j:=c 0 (by omega)
   have d:f=none:=by simpa[Addr.add]using World.cell?_spot j
   subst d;have e:=zog w _ j;rw[Addr.add_lit]at e;refine .inr ⟨b,off,rfl,e,fun i hi=>?_⟩
   have:=c i (by omega)
   rw[Addr.add_lit]at this;rw[this];simp only[zoi,List.getElem?_take,if_pos hi]
end Go.Proofs.YtbmcgbmegcpgnaaGreat
namespace Go.Proofs.YtbmcgbmegcpgnaaGreat
open Go.RowKit Go.Maps Go.ChangeShapes Go.WideShapes Go.ChangeAt Go.Deep
theorem Tryz.qcInt:Tryz.prog.cellsOf 3=1:=by kernel_rfl
theorem Tryz.qcNum:Tryz.prog.cellsOf 96=1:=by kernel_rfl
theorem Tryz.qcRef:Tryz.prog.cellsOf 48=2:=by kernel_rfl
theorem Tryz.qcPush:Tryz.prog.cellsOf 144=4:=by kernel_rfl
theorem Tryz.qcCase:Tryz.prog.cellsOf 98=3:=by kernel_rfl
theorem Tryz.qcHead:Tryz.prog.cellsOf 53=1:=by kernel_rfl
theorem Tryz.qcState:Tryz.prog.cellsOf 51=5:=by kernel_rfl
theorem Tryz.qcOp:Tryz.prog.cellsOf 59=5:=by kernel_rfl
theorem Tryz.qcAct:Tryz.prog.cellsOf 56=2:=by kernel_rfl
theorem Tryz.qcTab:Tryz.prog.cellsOf 63=6:=by kernel_rfl
theorem Tryz.qcNode:Tryz.prog.cellsOf 65=5:=by kernel_rfl
theorem Tryz.qcPlan:Tryz.prog.cellsOf 29=7:=by kernel_rfl
theorem Tryz.qcInts:Tryz.prog.cellsOf 23=1:=by kernel_rfl
theorem Tryz.qcNums:Tryz.prog.cellsOf 61=1:=by kernel_rfl
theorem Tryz.qcRefs:Tryz.prog.cellsOf 60=1:=by kernel_rfl
theorem Tryz.qcPushs:Tryz.prog.cellsOf 57=1:=by kernel_rfl
theorem Tryz.qcCases:Tryz.prog.cellsOf 49=1:=by kernel_rfl
theorem Tryz.qcHeads:Tryz.prog.cellsOf 22=1:=by kernel_rfl
theorem Tryz.qcStates:Tryz.prog.cellsOf 24=1:=by kernel_rfl
theorem Tryz.qcOps:Tryz.prog.cellsOf 54=1:=by kernel_rfl
theorem Tryz.qcActs:Tryz.prog.cellsOf 25=1:=by kernel_rfl
theorem Tryz.qcTabs:Tryz.prog.cellsOf 26=1:=by kernel_rfl
theorem Tryz.qcNodes:Tryz.prog.cellsOf 27=1:=by kernel_rfl
variable {H : Type} {enc : TypeId × Value -> H} {W : World} {base : Nat} {held : Bool}
theorem yC{a:Nat}{v:Value}{x:DataW H × List MemPlace}(h:DataW.trod enc Tryz.prog W base (fun _=>true) held a 3 [v]=some x):∃n,v=.int .i64 n/\(Lit.int .i64 n).wf=true:=by
 obtain⟨n,b,_,hw⟩:=DataW.trod_int Tryz.underlying3 h;exact⟨n,by simpa using b,hw⟩
theorem zaM{a:Nat}{v:Value}{x:DataW H × List MemPlace}(h:DataW.trod enc Tryz.prog W base (fun _=>true) held a 96 [v]=some x):∃n,v=.int .u64 n/\(Lit.int .u64 n).wf=true:=by
 obtain⟨n,b,_,hw⟩:=DataW.trod_int Tryz.underlying96 h;exact⟨n,by simpa using b,hw⟩
theorem qA{f:Nat}{v:Value}{x:DataW H × List MemPlace}(h:DataW.trod enc Tryz.prog W base (fun _=>true) held f 23 [v]=some x):∃s:QSl,∃zs,v=.slice s.a s.n s.c/\s.nil0/\Has .i64 W s.a s.n zs:=by
 rcases open_ints Tryz.underlying23 Tryz.underlying3 (by kernel_rfl) h with⟨b,_⟩|⟨y,l,c,zs,b,_,i,k,hz,_,d,g⟩
 ·have e:v=.slice none 0 0:=by simpa using b
  exact⟨⟨none,0,0⟩,[],e,fun _=>⟨rfl,rfl⟩,zW _ _⟩
 ·have e:v=.slice (some y) l c:=by simpa using b
  have j:IsRow .i64 W (some y) l c zs:=.inr ⟨_,rfl,i,k,by simpa using hz,d,g⟩
  exact⟨⟨some y,l,c⟩,zs.take l,e,by simp[QSl.nil0],j.has⟩
theorem zeT{f:Nat}{v:Value}{x:DataW H × List MemPlace}(h:DataW.trod enc Tryz.prog W base (fun _=>true) held f 23 [v]=some x):∃s:QSl,∃zs,v=.slice s.a s.n s.c/\s.nil0/\Has .i64 W s.a s.n zs/\s.n<=s.c:=by
 rcases open_ints Tryz.underlying23 Tryz.underlying3 (by kernel_rfl) h with⟨b,_⟩|⟨y,l,c,zs,b,_,i,k,hz,_,d,g⟩
 ·have e:v=.slice none 0 0:=by simpa using b
  exact⟨⟨none,0,0⟩,[],e,fun _=>⟨rfl,rfl⟩,zW _ _,zos _⟩
 ·have e:v=.slice (some y) l c:=by simpa using b
  have j:IsRow .i64 W (some y) l c zs:=.inr ⟨_,rfl,i,k,by simpa using hz,d,g⟩
  exact⟨⟨some y,l,c⟩,zs.take l,e,by simp[QSl.nil0],j.has,i⟩
theorem zf2{f:Nat}{v:Value}{x:DataW H × List MemPlace}(h:DataW.trod enc Tryz.prog W base (fun _=>true) held f 61 [v]=some x):∃s:QSl,∃zs,v=.slice s.a s.n s.c/\s.nil0/\Has .u64 W s.a s.n zs:=by
 rcases open_ints Tryz.underlying61 Tryz.underlying96 (by kernel_rfl) h with⟨b,_⟩|⟨y,l,c,zs,b,_,i,k,hz,_,d,g⟩
 ·have e:v=.slice none 0 0:=by simpa using b
  exact⟨⟨none,0,0⟩,[],e,fun _=>⟨rfl,rfl⟩,zW _ _⟩
 ·have e:v=.slice (some y) l c:=by simpa using b
  have j:IsRow .u64 W (some y) l c zs:=.inr ⟨_,rfl,i,k,by simpa using hz,d,g⟩
  exact⟨⟨some y,l,c⟩,zs.take l,e,by simp[QSl.nil0],j.has⟩
theorem xu{α :Type}{T E:TypeId}{k:Nat}{P: α->World->Nat->Nat->Prop}(Y:Tryz.prog.underlying T=some (.slice E))(M:Tryz.prog.cellsOf E=k)(k0:0<k)
 (V:∀{q g o:Nat} {cs:List Value} {x:DataW H × List MemPlace},cs.length=k->(∀i,i<k->W.cell? ⟨g,o+i,none⟩=cs[i]?)->DataW.trod enc Tryz.prog W base (fun _=>true) held q E cs=some x->∃d: α,P d W g o)
 {q:Nat} {v:Value} {x:DataW H × List MemPlace} (h:DataW.trod enc Tryz.prog W base (fun _=>true) held q T [v]=some x):∃s:QSl,∃S,v=.slice s.a s.n s.c/\s.nil0/\QRow k P W s S:=by
 rcases open_slice Y h with⟨w,_⟩|⟨y,n,cap,m,k',D,Pl,w,_,hl,_,R,_,G⟩
 ·have e:v=.slice none 0 0:=by simpa using w
  exact⟨⟨none,0,0⟩,[],e,fun _=>⟨rfl,rfl⟩,rfl,by simp⟩
 ·have e:v=.slice (some y) n cap:=by simpa using w
  simp only[if_true]at R;have F:∀i,i<n->∃d: α,∃g off,y=⟨g,off,none⟩/\P d W g (off+i*k):=by
   intro i hi;obtain⟨Q,l,K⟩:=G i (by omega)
   rw[M]at l;obtain⟨_,C,A⟩:=World.cells?_some l;obtain⟨Z,b,_⟩:=G 0 (by omega)
   rw[M]at b;obtain⟨_,L,u⟩:=World.cells?_some b;obtain⟨g,off,B⟩:=y;have J:=u 0 (by omega)
   rw[zoh (by omega)]at J
   have t:B=none:=by simpa[Addr.add]using World.cell?_spot J
   subst t;obtain⟨d,X⟩:=V (g:=g) (o:=off+i*k) (by simpa using C) (fun j I=>by
    have:=A j (by omega)
    rw[Addr.add_lit,Addr.add_lit]at this;exact this) K
   exact⟨d,g,off,rfl,X⟩
  by_cases J:n=0
  ·subst J;exact⟨⟨some y,0,cap⟩,[],e,by simp[QSl.nil0],rfl,by simp⟩
  obtain⟨U,_⟩:=F 0 (by omega)
  haveI:Inhabited α :=⟨U⟩
  obtain⟨f,O⟩:=choose_lt F;refine⟨⟨some y,n,cap⟩,(List.range n).map f,e,by simp[QSl.nil0],by simp,fun i d N=>?_⟩
  simp only[zoy,Option.map_eq_some_iff]at N;obtain⟨j,I,rfl⟩:=N;have hi:i<n:=by
   have:=(zok.1 I).1;simpa using this
  rw[List.getElem?_range hi]at I;have e:i=j:=by simpa using I
  subst e;obtain⟨g,off,e,r⟩:=O i hi;exact⟨g,off,by rw[e],r⟩
theorem q1{α :Type}{l:List α}(h:l.length=1):∃a,l=[a]:=by
 match l,h with
 |[a],_=>exact⟨a,rfl⟩
theorem q2{α :Type}{l:List α}(h:l.length=2):∃a b,l=[a,b]:=by
 match l,h with
 |[a,b],_=>exact⟨a,b,rfl⟩
theorem q3{α :Type}{l:List α}(h:l.length=3):∃a b c,l=[a,b,c]:=by
 match l,h with
 |[a,b,c],_=>exact⟨a,b,c,rfl⟩
theorem q4{α :Type}{l:List α}(h:l.length=4):∃a b c d,l=[a,b,c,d]:=by
 match l,h with
 |[a,b,c,d],_=>exact⟨a,b,c,d,rfl⟩
theorem q5{α :Type}{l:List α}(h:l.length=5):∃a b c d e,l=[a,b,c,d,e]:=by
 match l,h with
 |[a,b,c,d,e],_=>exact⟨a,b,c,d,e,rfl⟩
theorem q6{α :Type}{l:List α}(h:l.length=6):∃a b c d e f,l=[a,b,c,d,e,f]:=by
 match l,h with
 |[a,b,c,d,e,f],_=>exact⟨a,b,c,d,e,f,rfl⟩
theorem q7{α :Type}{l:List α}(h:l.length=7):∃a b c d e f g,l=[a,b,c,d,e,f,g]:=by
 match l,h with
 |[a,b,c,d,e,f,g],_=>exact⟨a,b,c,d,e,f,g,rfl⟩
theorem zav{c:Nat}{v0 v1:Value}{x:DataW H × List MemPlace}(h:DataW.trod enc Tryz.prog W base (fun _=>true) held c 48 [v0,v1]=some x):∃d:RefD,v0=.int .i64 d.h/\v1=.int .i64 d.f/\(Lit.int .i64 d.h).wf=true/\(Lit.int .i64 d.f).wf=true:=by
 obtain⟨k,i,n,_,j,e,g⟩:=trod_struct2 Tryz.underlying48 h;simp only[Tryz.qcInt,List.drop_zero,zoQ,List.take_zero]at e;simp only[Tryz.qcInt,zoU,List.drop_zero,zoQ,List.take_zero]at g;obtain⟨a,rfl,ha⟩:=yC e;obtain⟨b,rfl,hb⟩:=yC g;exact⟨⟨a,b⟩,rfl,rfl,ha,hb⟩
theorem zki{a g o:Nat}{cs:List Value}{x:DataW H × List MemPlace}(e:cs.length=2)(b:∀i,i<2->W.cell? ⟨g,o+i,none⟩=cs[i]?)(h:DataW.trod enc Tryz.prog W base (fun _=>true) held a 48 cs=some x):∃d:RefD,d.lie W g o:=by
 obtain⟨v0,v1,rfl⟩:=q2 e;obtain⟨d,rfl,rfl,f,c⟩:=zav h;exact⟨d,⟨b 0 (by omega),f⟩,⟨b 1 (by omega),c⟩⟩
theorem zdA{b g o:Nat}{cs:List Value}{x:DataW H × List MemPlace}(s:cs.length=4)(c:∀i,i<4->W.cell? ⟨g,o+i,none⟩=cs[i]?)(h:DataW.trod enc Tryz.prog W base (fun _=>true) held b 144 cs=some x):∃d:PushD,d.lie W g o:=by
 obtain⟨v0,v1,v2,v3,rfl⟩:=q4 s;obtain⟨q,m,_,_,_,j,e⟩:=DataW.trod_struct Tryz.underlying144 h;have f0:=e 0 _ rfl;have f1:=e 1 _ rfl;have f2:=e 2 _ rfl;have l:q.length=3:=j;rw[zoh (by omega)]at f0 f1 f2
 simp only[List.getElem_toArray,zoS,zoW,Tryz.qcInt,Tryz.qcRef,Tryz.qcNum,zoU,List.drop_zero,zoQ,List.take_zero]at f0 f1 f2;obtain⟨a,rfl,ha⟩:=yC f0;obtain⟨r,rfl,rfl,k,f⟩:=zav f1;obtain⟨n,rfl,t⟩:=zaM f2;exact⟨⟨a,r,n⟩,⟨c 0 (by omega),ha⟩,⟨c 1 (by omega),k⟩,⟨c 2 (by omega),f⟩,⟨c 3 (by omega),t⟩⟩
theorem zia{c g o:Nat}{cs:List Value}{x:DataW H × List MemPlace}(q:cs.length=3)(e:∀i,i<3->W.cell? ⟨g,o+i,none⟩=cs[i]?)(h:DataW.trod enc Tryz.prog W base (fun _=>true) held c 98 cs=some x):∃d:CaseD,d.lie W g o:=by
 obtain⟨v0,v1,v2,rfl⟩:=q3 q;obtain⟨l,m,_,_,_,j,f⟩:=DataW.trod_struct Tryz.underlying98 h;have f0:=f 0 _ rfl;have f1:=f 1 _ rfl;have f2:=f 2 _ rfl;have k:l.length=3:=j;rw[zoh (by omega)]at f0 f1 f2
 simp only[List.getElem_toArray,zoS,zoW,Tryz.qcInt,Tryz.qcNum,zoU,List.drop_zero,zoQ,List.take_zero]at f0 f1 f2;obtain⟨a,rfl,ha⟩:=zaM f0;obtain⟨b,rfl,hb⟩:=zaM f1;obtain⟨n,rfl,r⟩:=yC f2;exact⟨⟨a,b,n⟩,⟨e 0 (by omega),ha⟩,⟨e 1 (by omega),hb⟩,⟨e 2 (by omega),r⟩⟩
theorem zib{a g o:Nat}{cs:List Value}{x:DataW H × List MemPlace}(k:cs.length=1)(e:∀i,i<1->W.cell? ⟨g,o+i,none⟩=cs[i]?)(h:DataW.trod enc Tryz.prog W base (fun _=>true) held a 53 cs=some x):∃d:HeadD,d.lie W g o:=by
 obtain⟨v0,rfl⟩:=q1 k;obtain⟨j,m,_,_,_,b,f⟩:=DataW.trod_struct Tryz.underlying53 h;have f0:=f 0 _ rfl;have c:j.length=1:=b;rw[zoh (by omega)]at f0
 simp only[List.getElem_toArray,zoS,Tryz.qcInts,List.drop_zero,zoQ,List.take_zero]at f0;obtain⟨s,zs,rfl,hs,hz⟩:=qA f0;exact⟨⟨s,zs⟩,⟨e 0 (by omega),hs⟩,hz⟩
theorem zf3{c g o:Nat}{cs:List Value}{x:DataW H × List MemPlace}(w:cs.length=5)(b:∀i,i<5->W.cell? ⟨g,o+i,none⟩=cs[i]?)(h:DataW.trod enc Tryz.prog W base (fun _=>true) held c 51 cs=some x):∃d:StateD,d.lie W g o:=by
 obtain⟨v0,v1,v2,v3,v4,rfl⟩:=q5 w;obtain⟨t,m,_,_,_,j,e⟩:=DataW.trod_struct Tryz.underlying51 h;have f0:=e 0 _ rfl;have f1:=e 1 _ rfl;have f2:=e 2 _ rfl;have f3:=e 3 _ rfl;have l:t.length=4:=j;rw[zoh (by omega)]at f0 f1 f2 f3
 simp only[List.getElem_toArray,zoS,zoW,Tryz.qcInt,Tryz.qcRef,Tryz.qcCases,zoU,List.drop_zero,zoQ,List.take_zero]at f0 f1 f2 f3;obtain⟨a,rfl,ha⟩:=yC f0;obtain⟨r,rfl,rfl,k,f⟩:=zav f1;obtain⟨s,S,rfl,hs,B⟩:=xu Tryz.underlying49 Tryz.qcCase (by omega) (P:=CaseD.lie) (fun y u q=>zia y u q) f2
 obtain⟨n,rfl,A⟩:=yC f3;exact⟨⟨a,r,s,S,n⟩,⟨b 0 (by omega),ha⟩,⟨b 1 (by omega),k⟩,⟨b 2 (by omega),f⟩,⟨b 3 (by omega),hs⟩,⟨b 4 (by omega),A⟩,B⟩
theorem zlM{c g o:Nat}{cs:List Value}{x:DataW H × List MemPlace}(w:cs.length=5)(b:∀i,i<5->W.cell? ⟨g,o+i,none⟩=cs[i]?)(h:DataW.trod enc Tryz.prog W base (fun _=>true) held c 59 cs=some x):∃d:OpD,d.lie W g o:=by
 obtain⟨v0,v1,v2,v3,v4,rfl⟩:=q5 w;obtain⟨t,m,_,_,_,j,e⟩:=DataW.trod_struct Tryz.underlying59 h;have f0:=e 0 _ rfl;have f1:=e 1 _ rfl;have f2:=e 2 _ rfl;have f3:=e 3 _ rfl;have l:t.length=4:=j;rw[zoh (by omega)]at f0 f1 f2 f3
 simp only[List.getElem_toArray,zoS,zoW,Tryz.qcInt,Tryz.qcRef,Tryz.qcPushs,zoU,List.drop_zero,zoQ,List.take_zero]at f0 f1 f2 f3;obtain⟨a,rfl,ha⟩:=yC f0;obtain⟨r,rfl,rfl,k,f⟩:=zav f1;obtain⟨n,rfl,A⟩:=yC f2;obtain⟨s,S,rfl,hs,B⟩:=xu Tryz.underlying57 Tryz.qcPush (by omega) (P:=PushD.lie) (fun y u q=>zdA y u q) f3
 exact⟨⟨a,r,n,s,S⟩,⟨b 0 (by omega),ha⟩,⟨b 1 (by omega),k⟩,⟨b 2 (by omega),f⟩,⟨b 3 (by omega),A⟩,⟨b 4 (by omega),hs⟩,B⟩
theorem zkj{a g o:Nat}{cs:List Value}{x:DataW H × List MemPlace}(r:cs.length=2)(e:∀i,i<2->W.cell? ⟨g,o+i,none⟩=cs[i]?)(h:DataW.trod enc Tryz.prog W base (fun _=>true) held a 56 cs=some x):∃d:ActD,d.lie W g o:=by
 obtain⟨v0,v1,rfl⟩:=q2 r;obtain⟨l,m,_,_,_,b,f⟩:=DataW.trod_struct Tryz.underlying56 h;have f0:=f 0 _ rfl;have f1:=f 1 _ rfl;have j:l.length=2:=b;rw[zoh (by omega)]at f0 f1
 simp only[List.getElem_toArray,zoS,zoW,Tryz.qcInts,Tryz.qcOps,zoU,List.drop_zero,zoQ,List.take_zero]at f0 f1;obtain⟨s,zs,rfl,hs,hz⟩:=qA f0;obtain⟨n,S,rfl,c,u⟩:=xu Tryz.underlying54 Tryz.qcOp (by omega) (P:=OpD.lie) (fun t q k=>zlM t q k) f1
 exact⟨⟨s,zs,n,S⟩,⟨e 0 (by omega),hs⟩,⟨e 1 (by omega),c⟩,hz,u⟩
theorem zic{f:Nat}{v0 v1 v2 v3 v4 v5:Value}{x:DataW H × List MemPlace}(h:DataW.trod enc Tryz.prog W base (fun _=>true) held f 63 [v0,v1,v2,v3,v4,v5]=some x):∃d:TabD,v0=.int .i64 d.kind/\v1=.slice d.keys.a d.keys.n d.keys.c/\v2=.slice d.acts.a d.acts.n d.acts.c/\v3=.int .i64 d.cap/\v4=.int .i64 d.dflt/\v5=.slice d.args.a d.args.n d.args.c/\
 ((Lit.int .i64 d.kind).wf=true/\(Lit.int .i64 d.cap).wf=true/\(Lit.int .i64 d.dflt).wf=true/\d.keys.nil0/\d.acts.nil0/\d.args.nil0)/\QRow 2 RefD.lie W d.keys d.ks/\Has .i64 W d.acts.a d.acts.n d.al/\Has .u64 W d.args.a d.args.n d.zs:=by
 obtain⟨w,m,_,_,_,q,e⟩:=DataW.trod_struct Tryz.underlying63 h;have f0:=e 0 _ rfl;have f1:=e 1 _ rfl;have f2:=e 2 _ rfl;have f3:=e 3 _ rfl;have j:=e 4 _ rfl;have i:=e 5 _ rfl;have r:w.length=6:=q;rw[zoh (by omega)]at f0 f1 f2 f3 j i
 simp only[List.getElem_toArray,zoS,zoW,Tryz.qcInt,Tryz.qcInts,Tryz.qcNums,Tryz.qcRefs,zoU,List.drop_zero,zoQ,List.take_zero]at f0 f1 f2 f3 j i;obtain⟨a,rfl,ha⟩:=yC f0;obtain⟨s,S,rfl,hs,D⟩:=xu Tryz.underlying60 Tryz.qcRef (by omega) (P:=RefD.lie) (fun B y t=>zki B y t) f1
 obtain⟨s2,C,rfl,g,o⟩:=qA f2;obtain⟨b,rfl,hb⟩:=yC f3;obtain⟨c,rfl,u⟩:=yC j;obtain⟨s5,A,rfl,k,l⟩:=zf2 i;exact⟨⟨a,s,S,s2,C,b,c,s5,A⟩,rfl,rfl,rfl,rfl,rfl,rfl,⟨ha,hb,u,hs,g,k⟩,D,o,l⟩
theorem zkk{b g o:Nat}{cs:List Value}{x:DataW H × List MemPlace}(f:cs.length=6)(a:∀i,i<6->W.cell? ⟨g,o+i,none⟩=cs[i]?)(h:DataW.trod enc Tryz.prog W base (fun _=>true) held b 63 cs=some x):∃d:TabD,d.lie W g o:=by
 obtain⟨v0,v1,v2,v3,v4,v5,rfl⟩:=q6 f;obtain⟨d,rfl,rfl,rfl,rfl,rfl,rfl,⟨l,q,m,k,r,j⟩,n,e,c⟩:=zic h;exact⟨d,⟨a 0 (by omega),l⟩,⟨a 1 (by omega),k⟩,⟨a 2 (by omega),r⟩,⟨a 3 (by omega),q⟩,⟨a 4 (by omega),m⟩,⟨a 5 (by omega),j⟩,n,e,c⟩
theorem zid{j g o:Nat}{cs:List Value}{x:DataW H × List MemPlace}(y:cs.length=5)(e:∀i,i<5->W.cell? ⟨g,o+i,none⟩=cs[i]?)(h:DataW.trod enc Tryz.prog W base (fun _=>true) held j 65 cs=some x):∃d:NodeD,d.lie W g o:=by
 obtain⟨v0,v1,v2,v3,v4,rfl⟩:=q5 y;obtain⟨t,m,_,_,_,n,f⟩:=DataW.trod_struct Tryz.underlying65 h;have f0:=f 0 _ rfl;have f1:=f 1 _ rfl;have f2:=f 2 _ rfl;have f3:=f 3 _ rfl;have k:=f 4 _ rfl;have q:t.length=5:=n;rw[zoh (by omega)]at f0 f1 f2 f3 k
 simp only[List.getElem_toArray,zoS,zoW,Tryz.qcInt,Tryz.qcPushs,zoU,List.drop_zero,zoQ,List.take_zero]at f0 f1 f2 f3 k;obtain⟨a,rfl,ha⟩:=yC f0;obtain⟨b,rfl,hb⟩:=yC f1;obtain⟨s,S,rfl,hs,B⟩:=xu Tryz.underlying57 Tryz.qcPush (by omega) (P:=PushD.lie) (fun A w r=>zdA A w r) f2
 obtain⟨c,rfl,l⟩:=yC f3;obtain⟨d,rfl,u⟩:=yC k;exact⟨⟨a,b,s,S,c,d⟩,⟨e 0 (by omega),ha⟩,⟨e 1 (by omega),hb⟩,⟨e 2 (by omega),hs⟩,⟨e 3 (by omega),l⟩,⟨e 4 (by omega),u⟩,B⟩
theorem qopen_plan{f:Nat}{cs:List Value}{x:DataW H × List MemPlace}(K:cs.length=7)(h:DataW.trod enc Tryz.prog W base (fun _=>true) held f 29 cs=some x):∃d:PlanD,Value.agg cs.toArray=d.v/\d.nil0/\d.lie W:=by
 obtain⟨v0,v1,v2,v3,v4,v5,v6,rfl⟩:=q7 K;obtain⟨o,m,_,_,_,j,e⟩:=DataW.trod_struct Tryz.underlying29 h;have f0:=e 0 _ rfl;have f1:=e 1 _ rfl;have f2:=e 2 _ rfl;have f3:=e 3 _ rfl;have g:=e 4 _ rfl;have k:=e 5 _ rfl;have i:=e 6 _ rfl;have l:o.length=7:=j;rw[zoh (by omega)]at f0 f1 f2 f3 g k i
 simp only[List.getElem_toArray,zoS,zoW,Tryz.qcHeads,Tryz.qcInts,Tryz.qcStates,Tryz.qcActs,Tryz.qcTabs,Tryz.qcNodes,zoU,List.drop_zero,zoQ,List.take_zero]at f0 f1 f2 f3 g k i;obtain⟨s0,z0,rfl,u,w⟩:=xu Tryz.underlying22 Tryz.qcHead (by omega) (P:=HeadD.lie) (fun b a c=>zib b a c) f0
 obtain⟨s1,z1,rfl,I,L⟩:=qA f1;obtain⟨s2,E,rfl,C,n⟩:=xu Tryz.underlying24 Tryz.qcState (by omega) (P:=StateD.lie) (fun b a c=>zf3 b a c) f2
 obtain⟨s3,q,rfl,t,F⟩:=xu Tryz.underlying25 Tryz.qcAct (by omega) (P:=ActD.lie) (fun b a c=>zkj b a c) f3
 obtain⟨s4,D,rfl,y,G⟩:=xu Tryz.underlying26 Tryz.qcTab (by omega) (P:=TabD.lie) (fun b a c=>zkk b a c) g
 obtain⟨s5,r,rfl,M,B⟩:=xu Tryz.underlying27 Tryz.qcNode (by omega) (P:=NodeD.lie) (fun b a c=>zid b a c) k
 obtain⟨s6,N,rfl,J,A,s⟩:=zeT i;exact⟨⟨s0,z0,s1,z1,s2,E,s3,q,s4,D,s5,r,s6,N⟩,rfl,⟨u,I,C,t,y,M,J⟩,⟨w,L,n,F,G,B,A,s⟩⟩
end Go.Proofs.YtbmcgbmegcpgnaaGreat
