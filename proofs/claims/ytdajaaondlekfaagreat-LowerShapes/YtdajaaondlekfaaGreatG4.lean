import Derived.Test.YtdajaaondlekfaaGreatVQWidth2
import Derived.Test.YtdajaaondlekfaaGreatG1
import Derived.Laws.BitsAllLaws
set_option maxHeartbeats 4000000
set_option maxRecDepth 20000
set_option linter.unusedSimpArgs false
namespace Go.Proofs.YtdajaaondlekfaaGreat
open Go.RowKit
structure PState where
 head : Int
 r : RefD
 cs : List CaseD
 els : Int
structure POp where
 kind : Int
 r : RefD
 head : Int
 es : List PushD
structure PAct where
 ws : List Int
 os : List POp
structure PTab where
 kind : Int
 ks : List RefD
 al : List Int
 cap : Int
 dflt : Int
 zs : List Int
structure PNode where
 kind : Int
 n : Int
 es : List PushD
 yes : Int
 no : Int
structure PPlan where
 hs : List (List Int)
 ms : List Int
 ss : List PState
 al : List PAct
 ts : List PTab
 ns : List PNode
 os : List Int
@[reducible] def PState.z:PState:=⟨0,⟨0,0⟩,[],0⟩
@[reducible] def PAct.z:PAct:=⟨[],[]⟩
@[reducible] def PTab.z:PTab:=⟨0,[],[],0,0,[]⟩
@[reducible] def PNode.z:PNode:=⟨0,0,[],0,0⟩
def StateD.p(x:StateD):PState:=⟨x.head,x.r,x.cs,x.els⟩
def OpD.p(x:OpD):POp:=⟨x.kind,x.r,x.head,x.es⟩
def ActD.p(x:ActD):PAct:=⟨x.ws,x.os.map OpD.p⟩
def TabD.p(x:TabD):PTab:=⟨x.kind,x.ks,x.al,x.cap,x.dflt,x.zs⟩
def NodeD.p(x:NodeD):PNode:=⟨x.kind,x.n,x.es,x.yes,x.no⟩
def PlanD.p(d:PlanD):PPlan:=⟨d.hs.map HeadD.ws,d.ms,d.ss.map StateD.p,d.al.map ActD.p,d.ts.map TabD.p,d.ns.map NodeD.p,d.os⟩
def PPlan.fields(p:PPlan)(h:Int)(zs:List Int):List Int:=
 if h= -1 then p.ms else if h= -2 then zs else if h= -3 then[16]else if h<0\/(p.hs.length:Int)<=h then[]else p.hs.getD h.toNat []
def PPlan.width(p:PPlan)(r:RefD)(zs:List Int):Int:=
 if r.f<0\/((p.fields r.h zs).length:Int)<=r.f then 0 else(p.fields r.h zs).getD r.f.toNat 0
theorem zkn{d:PlanD}{w:World}(a:d.lie w)(h:Int)(zs:List Int):zE d h zs=d.p.fields h zs:=by
 unfold zE PPlan.fields PlanD.p;simp only[zoE,a.hs.1,zoi,zoy];split
 ·rfl
 split
 ·rfl
 split
 ·rfl
 split
 ·rfl
 ·rename_i h4
  have:h.toNat<d.hs.length:=by rw[a.hs.1];omega
  rw[zoh this];rfl
theorem qD{d:PlanD}{w:World}(a:d.lie w)(r:RefD)(zs:List Int):yU d r.h r.f zs=d.p.width r zs:=by
 unfold yU PPlan.width;rw[zkn a]
def zn:List Int->Int
 |[]=>0
 |x::l=>if x≠0 then x else zn l
def or2(x y:Int):Int:=if x≠0 then x else y
def xz(a:Nat)(k:Int):Int:=if 0<=k/\k<(a:Int)then 0 else 1
def xC(x:Int):Int:=if x<1\/48<x then 6 else 0
def zN(p:PPlan)(zs:List Int):List PushD->Int->Int
 |[],left=>if left≠1 then 13 else 0
 |x::l,left=>if yk x.op<0\/left<yk x.op then 13 else if x.op=2/\p.width x.r zs=0 then 1 else zN p zs l (left+(1-yk x.op))
def xl(p:PPlan)(es:List PushD)(zs:List Int):Int:=if 8<es.length then 2 else zN p zs es 0
def zR(p:PPlan)(r:RefD):Int:=if r.h= -3\/p.width r []=0 then 1 else 0
def zx(p:PPlan)(ws:List Int)(o:POp):Int:=
 if o.kind=1 then or2 (zR p o.r) (xl p o.es ws)else if o.kind=2\/o.kind=3 then xz p.hs.length o.head else if o.kind=4 then 0 else if o.kind=5 then xl p o.es ws else if o.kind=6 then or2 (zR p o.r) (xz p.hs.length o.head)else 5
def ki(p:PPlan)(a:PAct):Int:=if 3<a.ws.length\/5<a.os.length then 2 else or2 (zn (a.ws.map xC)) (zn (a.os.map (zx p a.ws)))
def zP(a:Nat)(n:Nat)(to:Int):Int:=if to<0\/(a:Int)<to then 1 else if to<=(n:Int)then 11 else 0
def doC(p:PPlan)(n:Int):Int:=if 0<=n/\n<(p.al.length:Int)then(if 0<(p.al.getD n.toNat ⟨[],[]⟩).ws.length then 2 else 0)else 1
def xN(p:PPlan)(x:PNode):Int:=
 if x.kind=1 then xz p.ts.length x.n else if x.kind=2 then doC p x.n else if x.kind=3 then xl p x.es []else if x.kind=4 then xz p.hs.length x.n else 5
def yG(p:PPlan)(n:Nat)(x:PNode):Int:=or2 (xN p x) (zn ((if x.kind=3\/x.kind=4 then[x.yes,x.no]else[x.yes]).map (zP p.ns.length n)))
def zf4(p:PPlan)(n:Nat):Int:=if 0<=p.os.getD n 0/\p.os.getD n 0<(p.hs.length:Int)then(if p.os.getD n 0∈p.os.take n then 7 else 0)else 1
def ye(x:PState):List Int:=x.cs.map CaseD.to++[x.els]
def zv(h:Int):Nat:=if h<0 then 0 else 2^h.toNat
def xZ(ws:List Int):Nat:=Mth.off ws ws.length/8
def szP(p:PPlan)(x:PState):Nat:=if x.head<0 then 0 else xZ (p.hs.getD x.head.toNat [])
def yZ(n:Nat)(to:Int):Nat:=if to=1000 then n else to.toNat
def kv(n:Nat)(l:List Int):List Nat:=l.filterMap fun to=>if to=1001 then none else some (yZ n to)
def zdd(n:Nat)(a:List Nat)(to:Int):List Nat:=if yZ n to<=n/\yZ n to ∉ a then a++[yZ n to]else a
def xD(n:Nat)(l:List Int):List Nat:=l.foldl (zdd n) []
def yP(x:PState)(s:Wk.Sets):Int:=
 if 0<=x.head/\s.may.testBit x.head.toNat=true then 7 else if 0<x.cs.length/\0<=x.r.h/\x.r.h≠x.head/\s.must.testBit x.r.h.toNat=false then 12 else 0
def yp(p:PPlan)(S:List Wk.Sets)(i:Nat):Int:=if(S.getD i Wk.zero).there=true then yP (p.ss.getD i PState.z) (S.getD i Wk.zero)else 0
def zgn(p:PPlan)(S:List Wk.Sets)(C A:Int):Prop:=
 (∃i,i<p.ss.length/\yp p S i≠0/\(∀j,j<i->yp p S j=0)/\C=yp p S i/\A=3000+i)\/((∀j,j<p.ss.length->yp p S j=0)/\C=0/\A=0)
@[reducible] def Wk.Sets.v(s:Wk.Sets):Value:=.agg #[.int .u64 (s.must:Int),.int .u64 (s.may:Int),.int .i64 (s.least:Int),.int .i64 (s.most:Int),.bool s.there]
structure Wk.Sets.few (s : Wk.Sets) : Prop where
 mu : s.must < 2 ^ 6
 ma : s.may < 2 ^ 6
 le : s.least <= 1000
 mo : s.most <= 1000
theorem qo{h:Int}(h0:¬h<0)(a:h<6):h=0\/h=1\/h=2\/h=3\/h=4\/h=5:=by omega
theorem zc7(h:Int)(a:h<6)(w:World):Calls Tryz.prog 185 #[.int .i64 h] w fun e w'=>e=.returned (.int .u64 (zv h))/\w'=w:=by
 by_cases h0:h<0
 ·have e:zv h=0:=by unfold zv;rw[if_pos h0]
  rw[e];go_enter Tryz.func185,Tryz.ntmps185
  go_wp2;go_ret;exact⟨rfl,rfl⟩
 ·rcases qo h0 a with rfl|rfl|rfl|rfl|rfl|rfl
  all_goals
   go_enter Tryz.func185,Tryz.ntmps185
   go_wp2;go_ret;exact⟨rfl,rfl⟩
theorem kS(a b:Nat)(ha:a<2^64)(hb:b<2^64):bits .and .u64 (a:Int) (b:Int)=((a&&& b:Nat):Int):=by
 have:=u64_and (a:Int) (b:Int) (by omega) (by omega) (by omega) (by omega)
 simpa using this
theorem zbt(a b:Nat)(ha:a<2^64)(hb:b<2^64):bits .or .u64 (a:Int) (b:Int)=((a|||b:Nat):Int):=by
 have:=u64_or (a:Int) (b:Int) (by omega) (by omega) (by omega) (by omega)
 simpa using this
theorem xm{a:Nat}(h:a<2^6):a<2^64:=zom h (by decide)
theorem zkY(s t:Wk.Sets)(hs:s.few)(i:t.few)(w:World):Calls Tryz.prog 186 #[s.v,t.v] w fun e w'=>e=.returned (Wk.joinS s t).v/\Below w.heap.size w w':=by
 have q:=kS s.must t.must (xm hs.mu) (xm i.mu);have h2:=zbt s.may t.may (xm hs.ma) (xm i.ma);have g:((min s.least t.least:Nat):Int)=min (s.least:Int) (t.least:Int):=by omega
 have h:((max s.most t.most:Nat):Int)=max (s.most:Int) (t.most:Int):=by omega
 have k:Hid (∀o r f,Below w.heap.size w (((w.alloc o).alloc r).alloc f)):=fun o r f=>ze (ze (ze (zof _ _)))
 obtain⟨a,b,c,d,e⟩:=s;obtain⟨l,n,m,j,u⟩:=t;clear hs i;cases e with
 |false=>
  simp only[Wk.joinS,Wk.Sets.v,Bool.false_eq_true,if_false];clear q h2 g h;go_enter Tryz.func186,Tryz.ntmps186
  go_wp2;exact bodyPost_ret (v:=.agg #[.int .u64 (l:Int),.int .u64 (n:Int),.int .i64 (m:Int),.int .i64 (j:Int),.bool u]) (by simp[results,Tryz.results186,go_sem]) rfl ⟨rfl,k.out _ _ _⟩
 |true=>
  simp only[Wk.joinS,Wk.Sets.v,if_true]at q h2 g h ⊢;rw[g,h];clear g h;go_enter Tryz.func186,Tryz.ntmps186
  go_wp2
  all_goals
   exact bodyPost_ret (v:=.agg #[.int .u64 ((a&&& l:Nat):Int),.int .u64 ((b|||n:Nat):Int),.int .i64 (min (c:Int) (m:Int)),.int .i64 (max (d:Int) (j:Int)),.bool true]) (by simp[results,Tryz.results186,go_sem];omega) rfl ⟨rfl,k.out _ _ _⟩
end Go.Proofs.YtdajaaondlekfaaGreat
