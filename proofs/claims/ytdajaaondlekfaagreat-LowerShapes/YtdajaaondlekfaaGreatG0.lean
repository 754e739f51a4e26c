import Derived.Test.YtdajaaondlekfaaGreatVBase
import Derived.Deep.Slices
import Derived.ProofKit
set_option maxHeartbeats 1000000
set_option maxRecDepth 20000
set_option linter.unusedSimpArgs false
namespace Go.Proofs.YtdajaaondlekfaaGreat
open Go.RowKit
structure QSl where
 a : Option Addr
 n : Nat
 c : Nat
def QSl.nil0(s:QSl):Prop:=s.a=none->s.n=0/\s.c=0
def CI(w:World)(g o:Nat)(n:Int):Prop:=w.cell? ⟨g,o,none⟩=some (.int .i64 n)/\(Lit.int .i64 n).wf=true
def CU(w:World)(g o:Nat)(n:Int):Prop:=w.cell? ⟨g,o,none⟩=some (.int .u64 n)/\(Lit.int .u64 n).wf=true
def CS(w:World)(g o:Nat)(s:QSl):Prop:=w.cell? ⟨g,o,none⟩=some (.slice s.a s.n s.c)/\s.nil0
theorem za{w w':World}{g o:Nat}{v:Value}(h:w.cell? ⟨g,o,none⟩=some v)(b:Below w.heap.size w w'):w'.cell? ⟨g,o,none⟩=some v:=
 (b.cell (p:=⟨g,o,none⟩) (zog w _ h)).trans h
theorem CI.step{w w':World}{g o:Nat}{n:Int}(h:CI w g o n)(b:Below w.heap.size w w'):CI w' g o n:=⟨za h.1 b,h.2⟩
theorem CU.step{w w':World}{g o:Nat}{n:Int}(h:CU w g o n)(b:Below w.heap.size w w'):CU w' g o n:=⟨za h.1 b,h.2⟩
theorem CS.step{w w':World}{g o:Nat}{s:QSl}(h:CS w g o s)(b:Below w.heap.size w w'):CS w' g o s:=⟨za h.1 b,h.2⟩
def QRow{α :Type}(k:Nat)(P: α->World->Nat->Nat->Prop)(w:World)(s:QSl)(S:List α):Prop:=
 S.length=s.n/\∀(i:Nat) (d: α),S[i]?=some d->∃g off,s.a=some ⟨g,off,none⟩/\P d w g (off+i*k)
def jw{α :Type}(P: α->World->Nat->Nat->Prop):Prop:=∀{d: α} {w w':World} {g o:Nat},P d w g o->Below w.heap.size w w'->P d w' g o
theorem QRow.step{α :Type}{k:Nat}{P: α->World->Nat->Nat->Prop}{w w':World}{s:QSl}{S:List α}(h:QRow k P w s S)(a:jw P)(b:Below w.heap.size w w'):QRow k P w' s S:=
 ⟨h.1,fun i d hd=>by obtain⟨g,off,e,c⟩:=h.2 i d hd;exact⟨g,off,e,a c b⟩⟩
structure RefD where
 h : Int
 f : Int
def RefD.lie(d:RefD)(w:World)(g o:Nat):Prop:=CI w g o d.h/\CI w g (o+1) d.f
theorem RefD.keeps:jw RefD.lie:=fun h b=>⟨h.1.step b,h.2.step b⟩
structure PushD where
 op : Int
 r : RefD
 n : Int
def PushD.lie(d:PushD)(w:World)(g o:Nat):Prop:=CI w g o d.op/\CI w g (o+1) d.r.h/\CI w g (o+2) d.r.f/\CU w g (o+3) d.n
theorem PushD.keeps:jw PushD.lie:=fun h b=>⟨h.1.step b,h.2.1.step b,h.2.2.1.step b,h.2.2.2.step b⟩
structure CaseD where
 value : Int
 mask : Int
 to : Int
def CaseD.lie(d:CaseD)(w:World)(g o:Nat):Prop:=CU w g o d.value/\CU w g (o+1) d.mask/\CI w g (o+2) d.to
theorem CaseD.keeps:jw CaseD.lie:=fun h b=>⟨h.1.step b,h.2.1.step b,h.2.2.step b⟩
structure HeadD where
 w : QSl
 ws : List Int
def HeadD.lie(d:HeadD)(w:World)(g o:Nat):Prop:=CS w g o d.w/\Has .i64 w d.w.a d.w.n d.ws
@[reducible] def HeadD.z:HeadD:=⟨⟨none,0,0⟩,[]⟩
theorem HeadD.keeps:jw HeadD.lie:=fun h b=>⟨h.1.step b,h.2.step b⟩
structure StateD where
 head : Int
 r : RefD
 cases : QSl
 cs : List CaseD
 els : Int
def StateD.lie(d:StateD)(w:World)(g o:Nat):Prop:=CI w g o d.head/\CI w g (o+1) d.r.h/\CI w g (o+2) d.r.f/\CS w g (o+3) d.cases/\CI w g (o+4) d.els/\QRow 3 CaseD.lie w d.cases d.cs
theorem StateD.keeps:jw StateD.lie:=fun h b=>⟨h.1.step b,h.2.1.step b,h.2.2.1.step b,h.2.2.2.1.step b,h.2.2.2.2.1.step b,h.2.2.2.2.2.step CaseD.keeps b⟩
structure OpD where
 kind : Int
 r : RefD
 head : Int
 e : QSl
 es : List PushD
def OpD.lie(d:OpD)(w:World)(g o:Nat):Prop:=CI w g o d.kind/\CI w g (o+1) d.r.h/\CI w g (o+2) d.r.f/\CI w g (o+3) d.head/\CS w g (o+4) d.e/\QRow 4 PushD.lie w d.e d.es
theorem OpD.keeps:jw OpD.lie:=fun h b=>⟨h.1.step b,h.2.1.step b,h.2.2.1.step b,h.2.2.2.1.step b,h.2.2.2.2.1.step b,h.2.2.2.2.2.step PushD.keeps b⟩
structure ActD where
 w : QSl
 ws : List Int
 ops : QSl
 os : List OpD
def ActD.lie(d:ActD)(w:World)(g o:Nat):Prop:=CS w g o d.w/\CS w g (o+1) d.ops/\Has .i64 w d.w.a d.w.n d.ws/\QRow 5 OpD.lie w d.ops d.os
@[reducible] def ActD.z:ActD:=⟨⟨none,0,0⟩,[],⟨none,0,0⟩,[]⟩
theorem ActD.keeps:jw ActD.lie:=fun h b=>⟨h.1.step b,h.2.1.step b,h.2.2.1.step b,h.2.2.2.step OpD.keeps b⟩
structure TabD where
 kind : Int
 keys : QSl
 ks : List RefD
 acts : QSl
 al : List Int
 cap : Int
 dflt : Int
 args : QSl
 zs : List Int
def TabD.lie(d:TabD)(w:World)(g o:Nat):Prop:=CI w g o d.kind/\CS w g (o+1) d.keys/\CS w g (o+2) d.acts/\CI w g (o+3) d.cap/\CI w g (o+4) d.dflt/\CS w g (o+5) d.args/\
 QRow 2 RefD.lie w d.keys d.ks/\Has .i64 w d.acts.a d.acts.n d.al/\Has .u64 w d.args.a d.args.n d.zs
theorem TabD.keeps:jw TabD.lie:=fun h b=>⟨h.1.step b,h.2.1.step b,h.2.2.1.step b,h.2.2.2.1.step b,h.2.2.2.2.1.step b,h.2.2.2.2.2.1.step b,h.2.2.2.2.2.2.1.step RefD.keeps b,h.2.2.2.2.2.2.2.1.step b,h.2.2.2.2.2.2.2.2.step b⟩
structure NodeD where
 kind : Int
 n : Int
 e : QSl
 es : List PushD
 yes : Int
 no : Int
def NodeD.lie(d:NodeD)(w:World)(g o:Nat):Prop:=CI w g o d.kind/\CI w g (o+1) d.n/\CS w g (o+2) d.e/\CI w g (o+3) d.yes/\CI w g (o+4) d.no/\QRow 4 PushD.lie w d.e d.es
theorem NodeD.keeps:jw NodeD.lie:=fun h b=>⟨h.1.step b,h.2.1.step b,h.2.2.1.step b,h.2.2.2.1.step b,h.2.2.2.2.1.step b,h.2.2.2.2.2.step PushD.keeps b⟩
structure PlanD where
 heads : QSl
 hs : List HeadD
 mta : QSl
 ms : List Int
 states : QSl
 ss : List StateD
 acts : QSl
 al : List ActD
 tabs : QSl
 ts : List TabD
 nodes : QSl
 ns : List NodeD
 out : QSl
 os : List Int
structure PlanD.lie (d : PlanD) (w : World) : Prop where
 hs : QRow 1 HeadD.lie w d.heads d.hs
 ms : Has .i64 w d.mta.a d.mta.n d.ms
 ss : QRow 5 StateD.lie w d.states d.ss
 al : QRow 2 ActD.lie w d.acts d.al
 ts : QRow 6 TabD.lie w d.tabs d.ts
 ns : QRow 5 NodeD.lie w d.nodes d.ns
 os : Has .i64 w d.out.a d.out.n d.os
 oc : d.out.n <= d.out.c
structure PlanD.nil0 (d : PlanD) : Prop where
 hs : d.heads.nil0
 ms : d.mta.nil0
 ss : d.states.nil0
 al : d.acts.nil0
 ts : d.tabs.nil0
 ns : d.nodes.nil0
 os : d.out.nil0
theorem PlanD.lie.step{d:PlanD}{w w':World}(h:d.lie w)(b:Below w.heap.size w w'):d.lie w':=
 ⟨h.hs.step HeadD.keeps b,h.ms.step b,h.ss.step StateD.keeps b,h.al.step ActD.keeps b,h.ts.step TabD.keeps b,h.ns.step NodeD.keeps b,h.os.step b,h.oc⟩
@[reducible] def PlanD.v(d:PlanD):Value:=.agg #[.slice d.heads.a d.heads.n d.heads.c,.slice d.mta.a d.mta.n d.mta.c,.slice d.states.a d.states.n d.states.c,.slice d.acts.a d.acts.n d.acts.c,.slice d.tabs.a d.tabs.n d.tabs.c,.slice d.nodes.a d.nodes.n d.nodes.c,.slice d.out.a d.out.n d.out.c]
def IsRow(k:IntKind)(w:World)(a:Option Addr)(len cap:Nat)(zs:List Int):Prop:=
 (a=none/\len=0/\cap=0/\zs=[])\/
 ∃x,a=some x/\len<=cap/\cap<=maxLen/\zs.length=cap/\(∀i,i<zs.length->w.cell? (x.add i)=some (.int k (zs.getD i 0)))/\∀n∈zs,(Lit.int k n).wf=true
theorem IsRow.has{k:IntKind}{w:World}{a:Option Addr}{len cap:Nat}{zs:List Int}(h:IsRow k w a len cap zs):Has k w a len (zs.take len):=by
 rcases h with⟨rfl,rfl,rfl,rfl⟩|⟨x,rfl,q,o,m,c,g⟩
 ·exact⟨rfl,by simp,.inl rfl⟩
 ·refine⟨by rw[List.length_take];omega,fun n l=>g n (List.mem_of_mem_take l),?_⟩
  by_cases h0:len=0
  ·subst h0;exact .inl (by simp)
  ·obtain⟨b,off,e⟩:=x;have j:=c 0 (by omega)
   have d:e=none:=by simpa[Addr.add]using World.cell?_spot j
   subst d;have f:=zog w _ j;rw[Addr.add_lit]at f;refine .inr ⟨b,off,rfl,f,fun i hi=>?_⟩
   have:=c i (by omega)
   rw[Addr.add_lit]at this;rw[this];simp only[zoi,List.getElem?_take,if_pos hi]
end Go.Proofs.YtdajaaondlekfaaGreat
namespace Go.Proofs.YtdajaaondlekfaaGreat
open Go.RowKit Go.Maps Go.ChangeShapes Go.WideShapes Go.ChangeAt Go.Deep
theorem Tryz.qcInt:Tryz.prog.cellsOf 3=1:=by kernel_rfl
theorem Tryz.qcNum:Tryz.prog.cellsOf 75=1:=by kernel_rfl
theorem Tryz.qcRef:Tryz.prog.cellsOf 57=2:=by kernel_rfl
theorem Tryz.qcPush:Tryz.prog.cellsOf 95=4:=by kernel_rfl
theorem Tryz.qcCase:Tryz.prog.cellsOf 163=3:=by kernel_rfl
theorem Tryz.qcHead:Tryz.prog.cellsOf 55=1:=by kernel_rfl
theorem Tryz.qcState:Tryz.prog.cellsOf 60=5:=by kernel_rfl
theorem Tryz.qcOp:Tryz.prog.cellsOf 66=5:=by kernel_rfl
theorem Tryz.qcAct:Tryz.prog.cellsOf 63=2:=by kernel_rfl
theorem Tryz.qcTab:Tryz.prog.cellsOf 69=6:=by kernel_rfl
theorem Tryz.qcNode:Tryz.prog.cellsOf 71=5:=by kernel_rfl
theorem Tryz.qcPlan:Tryz.prog.cellsOf 29=7:=by kernel_rfl
theorem Tryz.qcInts:Tryz.prog.cellsOf 23=1:=by kernel_rfl
theorem Tryz.qcNums:Tryz.prog.cellsOf 32=1:=by kernel_rfl
theorem Tryz.qcRefs:Tryz.prog.cellsOf 67=1:=by kernel_rfl
theorem Tryz.qcPushs:Tryz.prog.cellsOf 64=1:=by kernel_rfl
theorem Tryz.qcCases:Tryz.prog.cellsOf 58=1:=by kernel_rfl
theorem Tryz.qcHeads:Tryz.prog.cellsOf 22=1:=by kernel_rfl
theorem Tryz.qcStates:Tryz.prog.cellsOf 24=1:=by kernel_rfl
theorem Tryz.qcOps:Tryz.prog.cellsOf 61=1:=by kernel_rfl
theorem Tryz.qcActs:Tryz.prog.cellsOf 25=1:=by kernel_rfl
theorem Tryz.qcTabs:Tryz.prog.cellsOf 26=1:=by kernel_rfl
theorem Tryz.qcNodes:Tryz.prog.cellsOf 27=1:=by kernel_rfl
variable {H : Type} {enc : TypeId × Value -> H} {W : World} {base : Nat} {held : Bool}
theorem yC{a:Nat}{v:Value}{x:DataW H × List MemPlace}(h:DataW.trod enc Tryz.prog W base (fun _=>true) held a 3 [v]=some x):∃n,v=.int .i64 n/\(Lit.int .i64 n).wf=true:=by
 obtain⟨n,b,_,hw⟩:=DataW.trod_int Tryz.underlying3 h;exact⟨n,by simpa using b,hw⟩
theorem zaM{a:Nat}{v:Value}{x:DataW H × List MemPlace}(h:DataW.trod enc Tryz.prog W base (fun _=>true) held a 75 [v]=some x):∃n,v=.int .u64 n/\(Lit.int .u64 n).wf=true:=by
 obtain⟨n,b,_,hw⟩:=DataW.trod_int Tryz.underlying75 h;exact⟨n,by simpa using b,hw⟩
theorem qA{f:Nat}{v:Value}{x:DataW H × List MemPlace}(h:DataW.trod enc Tryz.prog W base (fun _=>true) held f 23 [v]=some x):∃s:QSl,∃zs,v=.slice s.a s.n s.c/\s.nil0/\Has .i64 W s.a s.n zs:=by
 rcases open_ints Tryz.underlying23 Tryz.underlying3 (by kernel_rfl) h with⟨b,_⟩|⟨y,l,c,zs,b,_,k,j,i,_,d,g⟩
 ·have e:v=.slice none 0 0:=by simpa using b
  exact⟨⟨none,0,0⟩,[],e,fun _=>⟨rfl,rfl⟩,zW _ _⟩
 ·have e:v=.slice (some y) l c:=by simpa using b
  have hr:IsRow .i64 W (some y) l c zs:=.inr ⟨_,rfl,k,j,by simpa using i,d,g⟩
  exact⟨⟨some y,l,c⟩,zs.take l,e,by simp[QSl.nil0],hr.has⟩
theorem zeT{f:Nat}{v:Value}{x:DataW H × List MemPlace}(h:DataW.trod enc Tryz.prog W base (fun _=>true) held f 23 [v]=some x):∃s:QSl,∃zs,v=.slice s.a s.n s.c/\s.nil0/\Has .i64 W s.a s.n zs/\s.n<=s.c:=by
 rcases open_ints Tryz.underlying23 Tryz.underlying3 (by kernel_rfl) h with⟨b,_⟩|⟨y,l,c,zs,b,_,i,k,j,_,d,g⟩
 ·have e:v=.slice none 0 0:=by simpa using b
  exact⟨⟨none,0,0⟩,[],e,fun _=>⟨rfl,rfl⟩,zW _ _,zos _⟩
 ·have e:v=.slice (some y) l c:=by simpa using b
  have hr:IsRow .i64 W (some y) l c zs:=.inr ⟨_,rfl,i,k,by simpa using j,d,g⟩
  exact⟨⟨some y,l,c⟩,zs.take l,e,by simp[QSl.nil0],hr.has,i⟩
theorem zf2{f:Nat}{v:Value}{x:DataW H × List MemPlace}(h:DataW.trod enc Tryz.prog W base (fun _=>true) held f 32 [v]=some x):∃s:QSl,∃zs,v=.slice s.a s.n s.c/\s.nil0/\Has .u64 W s.a s.n zs:=by
 rcases open_ints Tryz.underlying32 Tryz.underlying75 (by kernel_rfl) h with⟨b,_⟩|⟨y,l,c,zs,b,_,k,j,i,_,d,g⟩
 ·have e:v=.slice none 0 0:=by simpa using b
  exact⟨⟨none,0,0⟩,[],e,fun _=>⟨rfl,rfl⟩,zW _ _⟩
 ·have e:v=.slice (some y) l c:=by simpa using b
  have hr:IsRow .u64 W (some y) l c zs:=.inr ⟨_,rfl,k,j,by simpa using i,d,g⟩
  exact⟨⟨some y,l,c⟩,zs.take l,e,by simp[QSl.nil0],hr.has⟩
theorem xu{α :Type}{T E:TypeId}{k:Nat}{P: α->World->Nat->Nat->Prop}(O:Tryz.prog.underlying T=some (.slice E))(L:Tryz.prog.cellsOf E=k)(k0:0<k)
 (M:∀{q g o:Nat} {cs:List Value} {x:DataW H × List MemPlace},cs.length=k->(∀i,i<k->W.cell? ⟨g,o+i,none⟩=cs[i]?)->DataW.trod enc Tryz.prog W base (fun _=>true) held q E cs=some x->∃d: α,P d W g o)
 {q:Nat} {v:Value} {x:DataW H × List MemPlace} (h:DataW.trod enc Tryz.prog W base (fun _=>true) held q T [v]=some x):∃s:QSl,∃S,v=.slice s.a s.n s.c/\s.nil0/\QRow k P W s S:=by
 rcases open_slice O h with⟨u,_⟩|⟨y,n,cap,m,Y,D,X,u,_,Z,_,R,_,F⟩
 ·have e:v=.slice none 0 0:=by simpa using u
  exact⟨⟨none,0,0⟩,[],e,fun _=>⟨rfl,rfl⟩,rfl,by simp⟩
 ·have e:v=.slice (some y) n cap:=by simpa using u
  simp only[if_true]at R;have G:∀i,i<n->∃d: α,∃g off,y=⟨g,off,none⟩/\P d W g (off+i*k):=by
   intro i hi;obtain⟨U,l,J⟩:=F i (by omega)
   rw[L]at l;obtain⟨_,C,B⟩:=World.cells?_some l;obtain⟨Q,b,_⟩:=F 0 (by omega)
   rw[L]at b;obtain⟨_,K,w⟩:=World.cells?_some b;obtain⟨g,off,A⟩:=y;have h0:=w 0 (by omega)
   rw[zoh (by omega)]at h0
   have t:A=none:=by simpa[Addr.add]using World.cell?_spot h0
   subst t;obtain⟨d,N⟩:=M (g:=g) (o:=off+i*k) (by simpa using C) (fun j I=>by
    have:=B j (by omega)
    rw[Addr.add_lit,Addr.add_lit]at this;exact this) J
   exact⟨d,g,off,rfl,N⟩
  by_cases h0:n=0
  ·subst h0;exact⟨⟨some y,0,cap⟩,[],e,by simp[QSl.nil0],rfl,by simp⟩
  obtain⟨V,_⟩:=G 0 (by omega)
  haveI:Inhabited α :=⟨V⟩
  obtain⟨f,hf⟩:=choose_lt G;refine⟨⟨some y,n,cap⟩,(List.range n).map f,e,by simp[QSl.nil0],by simp,fun i d hd=>?_⟩
  simp only[zoy,Option.map_eq_some_iff]at hd;obtain⟨j,I,rfl⟩:=hd;have hi:i<n:=by
   have:=(zok.1 I).1;simpa using this
  rw[List.getElem?_range hi]at I;have e:i=j:=by simpa using I
  subst e;obtain⟨g,off,e,r⟩:=hf i hi;exact⟨g,off,by rw[e],r⟩
theorem q1{α :Type}{l:List α}(h:l.length=1):∃a,l=[a]:=by
 match l,h with
 |[a],_=>exact⟨a,rfl⟩
theorem q2{α :Type}{l:List α}(h:l.length=2):∃a b,l=[a,b]:=by
 match l,h with
 |[a,b],_=>exact⟨a,b,rfl⟩
theorem q3{α :Type}{l:List α}(h:l.length=3):∃a b c,l=[a,b,c]:=by
 match l,h with
 |[a,b,c],_=>exact⟨a,b,c,rfl⟩
theorem q4{α :Type}{l:List α}(h:l.length=4):∃a b c d,l=[a,b,c,d]:=by
 match l,h with
 |[a,b,c,d],_=>exact⟨a,b,c,d,rfl⟩
theorem q5{α :Type}{l:List α}(h:l.length=5):∃a b c d e,l=[a,b,c,d,e]:=by
 match l,h with
 |[a,b,c,d,e],_=>exact⟨a,b,c,d,e,rfl⟩
theorem q6{α :Type}{l:List α}(h:l.length=6):∃a b c d e f,l=[a,b,c,d,e,f]:=by
 match l,h with
 |[a,b,c,d,e,f],_=>exact⟨a,b,c,d,e,f,rfl⟩
theorem q7{α :Type}{l:List α}(h:l.length=7):∃a b c d e f g,l=[a,b,c,d,e,f,g]:=by
 match l,h with
 |[a,b,c,d,e,f,g],_=>exact⟨a,b,c,d,e,f,g,rfl⟩
theorem zav{c:Nat}{v0 v1:Value}{x:DataW H × List MemPlace}(h:DataW.trod enc Tryz.prog W base (fun _=>true) held c 57 [v0,v1]=some x):∃d:RefD,v0=.int .i64 d.h/\v1=.int .i64 d.f/\(Lit.int .i64 d.h).wf=true/\(Lit.int .i64 d.f).wf=true:=by
 obtain⟨y0,y1,n,_,g,h0,e⟩:=trod_struct2 Tryz.underlying57 h;simp only[Tryz.qcInt,List.drop_zero,zoQ,List.take_zero]at h0;simp only[Tryz.qcInt,zoU,List.drop_zero,zoQ,List.take_zero]at e;obtain⟨a,rfl,ha⟩:=yC h0;obtain⟨b,rfl,hb⟩:=yC e;exact⟨⟨a,b⟩,rfl,rfl,ha,hb⟩
theorem zki{a g o:Nat}{cs:List Value}{x:DataW H × List MemPlace}(c:cs.length=2)(b:∀i,i<2->W.cell? ⟨g,o+i,none⟩=cs[i]?)(h:DataW.trod enc Tryz.prog W base (fun _=>true) held a 57 cs=some x):∃d:RefD,d.lie W g o:=by
 obtain⟨v0,v1,rfl⟩:=q2 c;obtain⟨d,rfl,rfl,e,h2⟩:=zav h;exact⟨d,⟨b 0 (by omega),e⟩,⟨b 1 (by omega),h2⟩⟩
theorem zdA{b g o:Nat}{cs:List Value}{x:DataW H × List MemPlace}(q:cs.length=4)(c:∀i,i<4->W.cell? ⟨g,o+i,none⟩=cs[i]?)(h:DataW.trod enc Tryz.prog W base (fun _=>true) held b 95 cs=some x):∃d:PushD,d.lie W g o:=by
 obtain⟨v0,v1,v2,v3,rfl⟩:=q4 q;obtain⟨xs,m,_,_,_,f,hf⟩:=DataW.trod_struct Tryz.underlying95 h;have f0:=hf 0 _ rfl;have f1:=hf 1 _ rfl;have f2:=hf 2 _ rfl;have k:xs.length=3:=f;rw[zoh (by omega)]at f0 f1 f2
 simp only[List.getElem_toArray,zoS,zoW,Tryz.qcInt,Tryz.qcRef,Tryz.qcNum,zoU,List.drop_zero,zoQ,List.take_zero]at f0 f1 f2;obtain⟨a,rfl,ha⟩:=yC f0;obtain⟨r,rfl,rfl,j,e⟩:=zav f1;obtain⟨n,rfl,l⟩:=zaM f2;exact⟨⟨a,r,n⟩,⟨c 0 (by omega),ha⟩,⟨c 1 (by omega),j⟩,⟨c 2 (by omega),e⟩,⟨c 3 (by omega),l⟩⟩
theorem zia{c g o:Nat}{cs:List Value}{x:DataW H × List MemPlace}(l:cs.length=3)(f:∀i,i<3->W.cell? ⟨g,o+i,none⟩=cs[i]?)(h:DataW.trod enc Tryz.prog W base (fun _=>true) held c 163 cs=some x):∃d:CaseD,d.lie W g o:=by
 obtain⟨v0,v1,v2,rfl⟩:=q3 l;obtain⟨xs,m,_,_,_,e,hf⟩:=DataW.trod_struct Tryz.underlying163 h;have f0:=hf 0 _ rfl;have f1:=hf 1 _ rfl;have f2:=hf 2 _ rfl;have j:xs.length=3:=e;rw[zoh (by omega)]at f0 f1 f2
 simp only[List.getElem_toArray,zoS,zoW,Tryz.qcInt,Tryz.qcNum,zoU,List.drop_zero,zoQ,List.take_zero]at f0 f1 f2;obtain⟨a,rfl,ha⟩:=zaM f0;obtain⟨b,rfl,hb⟩:=zaM f1;obtain⟨n,rfl,k⟩:=yC f2;exact⟨⟨a,b,n⟩,⟨f 0 (by omega),ha⟩,⟨f 1 (by omega),hb⟩,⟨f 2 (by omega),k⟩⟩
theorem zib{a g o:Nat}{cs:List Value}{x:DataW H × List MemPlace}(j:cs.length=1)(f:∀i,i<1->W.cell? ⟨g,o+i,none⟩=cs[i]?)(h:DataW.trod enc Tryz.prog W base (fun _=>true) held a 55 cs=some x):∃d:HeadD,d.lie W g o:=by
 obtain⟨v0,rfl⟩:=q1 j;obtain⟨xs,m,_,_,_,b,hf⟩:=DataW.trod_struct Tryz.underlying55 h;have f0:=hf 0 _ rfl;have c:xs.length=1:=b;rw[zoh (by omega)]at f0
 simp only[List.getElem_toArray,zoS,Tryz.qcInts,List.drop_zero,zoQ,List.take_zero]at f0;obtain⟨s,zs,rfl,hs,e⟩:=qA f0;exact⟨⟨s,zs⟩,⟨f 0 (by omega),hs⟩,e⟩
theorem zf3{c g o:Nat}{cs:List Value}{x:DataW H × List MemPlace}(y:cs.length=5)(b:∀i,i<5->W.cell? ⟨g,o+i,none⟩=cs[i]?)(h:DataW.trod enc Tryz.prog W base (fun _=>true) held c 60 cs=some x):∃d:StateD,d.lie W g o:=by
 obtain⟨v0,v1,v2,v3,v4,rfl⟩:=q5 y;obtain⟨xs,m,_,_,_,f,hf⟩:=DataW.trod_struct Tryz.underlying60 h;have f0:=hf 0 _ rfl;have f1:=hf 1 _ rfl;have f2:=hf 2 _ rfl;have j:=hf 3 _ rfl;have l:xs.length=4:=f;rw[zoh (by omega)]at f0 f1 f2 j
 simp only[List.getElem_toArray,zoS,zoW,Tryz.qcInt,Tryz.qcRef,Tryz.qcCases,zoU,List.drop_zero,zoQ,List.take_zero]at f0 f1 f2 j;obtain⟨a,rfl,ha⟩:=yC f0;obtain⟨r,rfl,rfl,k,e⟩:=zav f1;obtain⟨s,S,rfl,hs,t⟩:=xu Tryz.underlying58 Tryz.qcCase (by omega) (P:=CaseD.lie) (fun u h2 q=>zia u h2 q) f2
 obtain⟨n,rfl,w⟩:=yC j;exact⟨⟨a,r,s,S,n⟩,⟨b 0 (by omega),ha⟩,⟨b 1 (by omega),k⟩,⟨b 2 (by omega),e⟩,⟨b 3 (by omega),hs⟩,⟨b 4 (by omega),w⟩,t⟩
theorem zlM{c g o:Nat}{cs:List Value}{x:DataW H × List MemPlace}(y:cs.length=5)(b:∀i,i<5->W.cell? ⟨g,o+i,none⟩=cs[i]?)(h:DataW.trod enc Tryz.prog W base (fun _=>true) held c 66 cs=some x):∃d:OpD,d.lie W g o:=by
 obtain⟨v0,v1,v2,v3,v4,rfl⟩:=q5 y;obtain⟨xs,m,_,_,_,f,hf⟩:=DataW.trod_struct Tryz.underlying66 h;have f0:=hf 0 _ rfl;have f1:=hf 1 _ rfl;have f2:=hf 2 _ rfl;have j:=hf 3 _ rfl;have l:xs.length=4:=f;rw[zoh (by omega)]at f0 f1 f2 j
 simp only[List.getElem_toArray,zoS,zoW,Tryz.qcInt,Tryz.qcRef,Tryz.qcPushs,zoU,List.drop_zero,zoQ,List.take_zero]at f0 f1 f2 j;obtain⟨a,rfl,ha⟩:=yC f0;obtain⟨r,rfl,rfl,k,e⟩:=zav f1;obtain⟨n,rfl,w⟩:=yC f2;obtain⟨s,S,rfl,hs,t⟩:=xu Tryz.underlying64 Tryz.qcPush (by omega) (P:=PushD.lie) (fun u h2 q=>zdA u h2 q) j
 exact⟨⟨a,r,n,s,S⟩,⟨b 0 (by omega),ha⟩,⟨b 1 (by omega),k⟩,⟨b 2 (by omega),e⟩,⟨b 3 (by omega),w⟩,⟨b 4 (by omega),hs⟩,t⟩
theorem zkj{a g o:Nat}{cs:List Value}{x:DataW H × List MemPlace}(r:cs.length=2)(f:∀i,i<2->W.cell? ⟨g,o+i,none⟩=cs[i]?)(h:DataW.trod enc Tryz.prog W base (fun _=>true) held a 63 cs=some x):∃d:ActD,d.lie W g o:=by
 obtain⟨v0,v1,rfl⟩:=q2 r;obtain⟨xs,m,_,_,_,c,hf⟩:=DataW.trod_struct Tryz.underlying63 h;have f0:=hf 0 _ rfl;have f1:=hf 1 _ rfl;have e:xs.length=2:=c;rw[zoh (by omega)]at f0 f1
 simp only[List.getElem_toArray,zoS,zoW,Tryz.qcInts,Tryz.qcOps,zoU,List.drop_zero,zoQ,List.take_zero]at f0 f1;obtain⟨s,zs,rfl,hs,j⟩:=qA f0;obtain⟨n,S,rfl,b,l⟩:=xu Tryz.underlying61 Tryz.qcOp (by omega) (P:=OpD.lie) (fun q h2 k=>zlM q h2 k) f1
 exact⟨⟨s,zs,n,S⟩,⟨f 0 (by omega),hs⟩,⟨f 1 (by omega),b⟩,j,l⟩
theorem zic{e:Nat}{v0 v1 v2 v3 v4 v5:Value}{x:DataW H × List MemPlace}(h:DataW.trod enc Tryz.prog W base (fun _=>true) held e 69 [v0,v1,v2,v3,v4,v5]=some x):∃d:TabD,v0=.int .i64 d.kind/\v1=.slice d.keys.a d.keys.n d.keys.c/\v2=.slice d.acts.a d.acts.n d.acts.c/\v3=.int .i64 d.cap/\v4=.int .i64 d.dflt/\v5=.slice d.args.a d.args.n d.args.c/\
 ((Lit.int .i64 d.kind).wf=true/\(Lit.int .i64 d.cap).wf=true/\(Lit.int .i64 d.dflt).wf=true/\d.keys.nil0/\d.acts.nil0/\d.args.nil0)/\QRow 2 RefD.lie W d.keys d.ks/\Has .i64 W d.acts.a d.acts.n d.al/\Has .u64 W d.args.a d.args.n d.zs:=by
 obtain⟨xs,m,_,_,_,i,hf⟩:=DataW.trod_struct Tryz.underlying69 h;have f0:=hf 0 _ rfl;have f1:=hf 1 _ rfl;have f2:=hf 2 _ rfl;have k:=hf 3 _ rfl;have f:=hf 4 _ rfl;have o:=hf 5 _ rfl;have r:xs.length=6:=i;rw[zoh (by omega)]at f0 f1 f2 k f o
 simp only[List.getElem_toArray,zoS,zoW,Tryz.qcInt,Tryz.qcInts,Tryz.qcNums,Tryz.qcRefs,zoU,List.drop_zero,zoQ,List.take_zero]at f0 f1 f2 k f o;obtain⟨a,rfl,ha⟩:=yC f0;obtain⟨s,S,rfl,hs,u⟩:=xu Tryz.underlying67 Tryz.qcRef (by omega) (P:=RefD.lie) (fun w h2 t=>zki w h2 t) f1
 obtain⟨s2,B,rfl,l,q⟩:=qA f2;obtain⟨b,rfl,hb⟩:=yC k;obtain⟨c,rfl,y⟩:=yC f;obtain⟨s5,A,rfl,j,g⟩:=zf2 o;exact⟨⟨a,s,S,s2,B,b,c,s5,A⟩,rfl,rfl,rfl,rfl,rfl,rfl,⟨ha,hb,y,hs,l,j⟩,u,q,g⟩
theorem zkk{b g o:Nat}{cs:List Value}{x:DataW H × List MemPlace}(m:cs.length=6)(a:∀i,i<6->W.cell? ⟨g,o+i,none⟩=cs[i]?)(h:DataW.trod enc Tryz.prog W base (fun _=>true) held b 69 cs=some x):∃d:TabD,d.lie W g o:=by
 obtain⟨v0,v1,v2,v3,v4,v5,rfl⟩:=q6 m;obtain⟨d,rfl,rfl,rfl,rfl,rfl,rfl,⟨q,e,n,j,c,l⟩,k,h2,f⟩:=zic h;exact⟨d,⟨a 0 (by omega),q⟩,⟨a 1 (by omega),j⟩,⟨a 2 (by omega),c⟩,⟨a 3 (by omega),e⟩,⟨a 4 (by omega),n⟩,⟨a 5 (by omega),l⟩,k,h2,f⟩
theorem zid{f g o:Nat}{cs:List Value}{x:DataW H × List MemPlace}(w:cs.length=5)(e:∀i,i<5->W.cell? ⟨g,o+i,none⟩=cs[i]?)(h:DataW.trod enc Tryz.prog W base (fun _=>true) held f 71 cs=some x):∃d:NodeD,d.lie W g o:=by
 obtain⟨v0,v1,v2,v3,v4,rfl⟩:=q5 w;obtain⟨xs,m,_,_,_,l,hf⟩:=DataW.trod_struct Tryz.underlying71 h;have f0:=hf 0 _ rfl;have f1:=hf 1 _ rfl;have f2:=hf 2 _ rfl;have n:=hf 3 _ rfl;have j:=hf 4 _ rfl;have q:xs.length=5:=l;rw[zoh (by omega)]at f0 f1 f2 n j
 simp only[List.getElem_toArray,zoS,zoW,Tryz.qcInt,Tryz.qcPushs,zoU,List.drop_zero,zoQ,List.take_zero]at f0 f1 f2 n j;obtain⟨a,rfl,ha⟩:=yC f0;obtain⟨b,rfl,hb⟩:=yC f1;obtain⟨s,S,rfl,hs,t⟩:=xu Tryz.underlying64 Tryz.qcPush (by omega) (P:=PushD.lie) (fun u h2 r=>zdA u h2 r) f2
 obtain⟨c,rfl,k⟩:=yC n;obtain⟨d,rfl,hd⟩:=yC j;exact⟨⟨a,b,s,S,c,d⟩,⟨e 0 (by omega),ha⟩,⟨e 1 (by omega),hb⟩,⟨e 2 (by omega),hs⟩,⟨e 3 (by omega),k⟩,⟨e 4 (by omega),hd⟩,t⟩
theorem qopen_plan{c:Nat}{cs:List Value}{x:DataW H × List MemPlace}(t:cs.length=7)(h:DataW.trod enc Tryz.prog W base (fun _=>true) held c 29 cs=some x):∃d:PlanD,Value.agg cs.toArray=d.v/\d.nil0/\d.lie W:=by
 obtain⟨v0,v1,v2,v3,v4,v5,v6,rfl⟩:=q7 t;obtain⟨xs,m,_,_,_,i,hf⟩:=DataW.trod_struct Tryz.underlying29 h;have f0:=hf 0 _ rfl;have f1:=hf 1 _ rfl;have f2:=hf 2 _ rfl;have e:=hf 3 _ rfl;have g:=hf 4 _ rfl;have f:=hf 5 _ rfl;have j:=hf 6 _ rfl;have k:xs.length=7:=i;rw[zoh (by omega)]at f0 f1 f2 e g f j
 simp only[List.getElem_toArray,zoS,zoW,Tryz.qcHeads,Tryz.qcInts,Tryz.qcStates,Tryz.qcActs,Tryz.qcTabs,Tryz.qcNodes,zoU,List.drop_zero,zoQ,List.take_zero]at f0 f1 f2 e g f j;obtain⟨s0,z0,rfl,n0,r0⟩:=xu Tryz.underlying22 Tryz.qcHead (by omega) (P:=HeadD.lie) (fun b h2 a=>zib b h2 a) f0
 obtain⟨s1,z1,rfl,n1,r1⟩:=qA f1;obtain⟨s2,o,rfl,n2,B⟩:=xu Tryz.underlying24 Tryz.qcState (by omega) (P:=StateD.lie) (fun b h2 a=>zf3 b h2 a) f2
 obtain⟨s3,q,rfl,n3,C⟩:=xu Tryz.underlying25 Tryz.qcAct (by omega) (P:=ActD.lie) (fun b h2 a=>zkj b h2 a) e
 obtain⟨s4,l,rfl,E,n⟩:=xu Tryz.underlying26 Tryz.qcTab (by omega) (P:=TabD.lie) (fun b h2 a=>zkk b h2 a) g
 obtain⟨s5,s,rfl,w,y⟩:=xu Tryz.underlying27 Tryz.qcNode (by omega) (P:=NodeD.lie) (fun b h2 a=>zid b h2 a) f
 obtain⟨s6,A,rfl,u,D,r⟩:=zeT j;exact⟨⟨s0,z0,s1,z1,s2,o,s3,q,s4,l,s5,s,s6,A⟩,rfl,⟨n0,n1,n2,n3,E,w,u⟩,⟨r0,r1,B,C,n,y,D,r⟩⟩
end Go.Proofs.YtdajaaondlekfaaGreat
namespace Go.Proofs.YtdajaaondlekfaaGreat
open Go.RowKit
def zE(d:PlanD)(h:Int)(zs:List Int):List Int:=
 if h= -1 then d.ms else if h= -2 then zs else if h= -3 then[16]else if h<0\/(d.heads.n:Int)<=h then[]else(d.hs.getD h.toNat HeadD.z).ws
def yU(d:PlanD)(h f:Int)(zs:List Int):Int:=
 if f<0\/((zE d h zs).length:Int)<=f then 0 else(zE d h zs).getD f.toNat 0
theorem zfb(w:World):Has .i64 (w.alloc (.cells #[.int .i64 16] 3)) (some ⟨w.heap.size,0,none⟩) 1 [16]:=by
 refine⟨rfl,?_,.inr ⟨w.heap.size,0,rfl,by simp,fun i hi=>?_⟩⟩
 ·intro n a;simp only[zoD,zoA,or_false]at a;subst a;decide
 ·have:i=0:=by omega
  subst this;simp
theorem zd9{d:PlanD}{w:World}(c:d.lie w){k:Nat}(h:k<d.heads.n):∃g off,d.heads.a=some ⟨g,off,none⟩/\(d.hs.getD k HeadD.z).lie w g (off+k):=by
 have b:k<d.hs.length:=by rw[c.hs.1];exact h
 obtain⟨g,off,e,f⟩:=c.hs.2 k _ (zoh b);refine⟨g,off,e,?_⟩;rw[zoi,zoh b,zoC];rwa[Nat.mul_one]at f
theorem zgc(d:PlanD)(h:Int)(q:Option Addr)(an ac:Nat)(zs:List Int)(w:World)(f:d.lie w)(i:Has .i64 w q an zs):
 Calls Tryz.prog 191 #[d.v,.int .i64 h,.slice q an ac] w fun e w'=>∃s:QSl,e=.returned (.slice s.a s.n s.c)/\Has .i64 w' s.a s.n (zE d h zs)/\Below w.heap.size w w':=by
 have b:∀o,Below w.heap.size w (w.alloc o):=fun o=>ze (zof _ _)
 have m:∀o t,Below w.heap.size w ((w.alloc o).alloc t):=fun o t=>ze (ze (zof _ _))
 by_cases l:h= -1
 ·subst l;have hr:Hid (zE d (-1) zs=d.ms):=by simp[zE,Hid]
  have H:=hid f.ms;clear f i;go_enter Tryz.func191,Tryz.ntmps191
  go_wp2;go_ret;exact⟨d.mta,rfl,by rw[hr.out];exact H.out.step (b _),b _⟩
 by_cases h2:h= -2
 ·subst h2;have hr:Hid (zE d (-2) zs=zs):=by simp[zE,Hid]
  have H:=hid i;clear f i;go_enter Tryz.func191,Tryz.ntmps191
  go_wp2;go_ret;exact⟨⟨q,an,ac⟩,rfl,by rw[hr.out];exact H.out.step (b _),b _⟩
 by_cases j:h= -3
 ·subst j;have hr:Hid (zE d (-3) zs=[16]):=by simp[zE,Hid]
  clear f i;go_enter Tryz.func191,Tryz.ntmps191
  go_wp2;go_ret;refine⟨⟨some ⟨w.heap.size+1,0,none⟩,1,1⟩,rfl,?_,m _ _⟩;rw[hr.out];have:=zfb (w.alloc (.cells #[.slice d.heads.a d.heads.n d.heads.c,.slice d.mta.a d.mta.n d.mta.c,.slice d.states.a d.states.n d.states.c,.slice d.acts.a d.acts.n d.acts.c,.slice d.tabs.a d.tabs.n d.tabs.c,.slice d.nodes.a d.nodes.n d.nodes.c,.slice d.out.a d.out.n d.out.c] 29));simpa using this
 by_cases r:h<0\/(d.heads.n:Int)<=h
 ·have hr:Hid (zE d h zs=[]):=by simp only[Hid,zE,if_neg l,if_neg h2,if_neg j,if_pos r]
  clear f i;go_enter Tryz.func191,Tryz.ntmps191
  go_wp2
  all_goals (first|(exfalso;omega)|(go_ret;exact⟨⟨none,0,0⟩,rfl,by rw[hr.out];exact zW _ _,b _⟩))
 ·obtain⟨k,rfl⟩:∃k:Nat,h=k:=⟨h.toNat,by omega⟩
  have u:k<d.heads.n:=by omega
  have hr:Hid (zE d k zs=(d.hs.getD k HeadD.z).ws):=by simp only[Hid,zE,if_neg l,if_neg h2,if_neg j,if_neg r,zov]
  obtain⟨g,off,B,hd⟩:=zd9 f u;have H:=hid hd.2;have A:∀o,(w.alloc o).cell? ⟨g,off+k,none⟩=some (.slice (d.hs.getD k HeadD.z).w.a (d.hs.getD k HeadD.z).w.n (d.hs.getD k HeadD.z).w.c):=fun o=>za hd.1.1 (b o)
  have y:=A;clear f i hd;generalize d.hs.getD k HeadD.z=x at*;go_enter Tryz.func191,Tryz.ntmps191
  go_wp2
  all_goals (first|(exfalso;omega)|skip)
  go_ret;exact⟨x.w,rfl,by rw[hr.out];exact H.out.step (b _),b _⟩
theorem zbQ{d:PlanD}{h f:Int}{zs:List Int}(h0:f<0\/((zE d h zs).length:Int)<=f):yU d h f zs=0:=by simp only[yU,if_pos h0]
theorem zfc{d:PlanD}{h:Int}{k:Nat}{zs:List Int}(h0:k<(zE d h zs).length):yU d h k zs=(zE d h zs).getD k 0:=by
 have:¬((k:Int)<0\/((zE d h zs).length:Int)<=k):=by omega
 simp only[yU,if_neg this,zov]
theorem zfd{w:World}{s:QSl}{l:List Int}{k:Nat}(hs:Has .i64 w s.a s.n l)(c:k<s.n):∃g off,s.a=some ⟨g,off,none⟩/\w.cell? ⟨g,off+k,none⟩=some (.int .i64 (l.getD k 0)):=by
 obtain⟨g,off,e,_,b⟩:=hs.some (by omega)
 exact⟨g,off,e,b k c⟩
theorem zaw(d:PlanD)(h f:Int)(m:Option Addr)(an ac:Nat)(zs:List Int)(w:World)(x:d.lie w)(q:Has .i64 w m an zs):
 Calls Tryz.prog 156 #[d.v,.agg #[.int .i64 h,.int .i64 f],.slice m an ac] w fun e w'=>e=.returned (.int .i64 (yU d h f zs))/\Below w.heap.size w w':=by
 have b:∀o i,Below w.heap.size w ((w.alloc o).alloc i):=fun o i=>ze (ze (zof _ _))
 have A:∀o i,Hid (Calls Tryz.prog 191 #[d.v,.int .i64 h,.slice m an ac] ((w.alloc o).alloc i) fun e w'=>∃s:QSl,e=.returned (.slice s.a s.n s.c)/\Has .i64 w' s.a s.n (zE d h zs)/\Below ((w.alloc o).alloc i).heap.size ((w.alloc o).alloc i) w'):=fun o i=>zgc d h m an ac zs _ (x.step (b o i)) (q.step (b o i))
 clear x q;go_enter Tryz.func156,Tryz.ntmps156
 go_wp2_with fail
 refine(A _ _).out.mono ?_;rintro e u ⟨s,rfl,hs,hb⟩;clear A;have j:=hid (zh (b _ _) hb);have c0:=za (w':=u) (g:=w.heap.size+1) (o:=0) (v:=.int .i64 h) (by simp) hb
 have c1:=za (w':=u) (g:=w.heap.size+1) (o:=1) (v:=.int .i64 f) (by simp) hb
 clear hb b;have l:=hs.1;by_cases h0:f<0\/(s.n:Int)<=f
 ·have hr:Hid (yU d h f zs=0):=zbQ (by rw[l];exact h0)
  clear hs l;go_wp2
  all_goals (first|(exfalso;omega)|(go_ret;exact⟨by rw[hr.out];rfl,j.out⟩))
 ·obtain⟨k,rfl⟩:∃k:Nat,f=k:=⟨f.toNat,by omega⟩
  have t:k<s.n:=by omega
  have hr:Hid (yU d h k zs=(zE d h zs).getD k 0):=zfc (by rw[l];exact t)
  obtain⟨g,off,B,y⟩:=zfd hs t;clear hs l;generalize(zE d h zs).getD k 0=r at*;go_wp2
  all_goals (first|(exfalso;omega)|skip)
  go_ret;exact⟨by rw[hr.out];rfl,j.out⟩
end Go.Proofs.YtdajaaondlekfaaGreat
