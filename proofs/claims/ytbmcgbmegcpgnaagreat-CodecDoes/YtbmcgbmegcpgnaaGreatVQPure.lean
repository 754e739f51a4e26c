import Derived.Test.YtbmcgbmegcpgnaaGreatVQWidth2
import Derived.Test.YtbmcgbmegcpgnaaGreatG1
set_option maxHeartbeats 200000
set_option maxRecDepth 20000
set_option linter.unusedSimpArgs false
namespace Go.Proofs.YtbmcgbmegcpgnaaGreat
open Go.RowKit
structure PState where
 head : Int
 r : RefD
 cs : List CaseD
 els : Int
structure POp where
 kind : Int
 r : RefD
 head : Int
 es : List PushD
structure PAct where
 ws : List Int
 os : List POp
structure PTab where
 kind : Int
 ks : List RefD
 al : List Int
 cap : Int
 dflt : Int
 zs : List Int
structure PNode where
 kind : Int
 n : Int
 es : List PushD
 yes : Int
 no : Int
structure PPlan where
 hs : List (List Int)
 ms : List Int
 ss : List PState
 al : List PAct
 ts : List PTab
 ns : List PNode
 os : List Int
@[reducible] def PState.z:PState:=⟨0,⟨0,0⟩,[],0⟩
@[reducible] def PAct.z:PAct:=⟨[],[]⟩
@[reducible] def PTab.z:PTab:=⟨0,[],[],0,0,[]⟩
@[reducible] def PNode.z:PNode:=⟨0,0,[],0,0⟩
def StateD.p(x:StateD):PState:=⟨x.head,x.r,x.cs,x.els⟩
def OpD.p(x:OpD):POp:=⟨x.kind,x.r,x.head,x.es⟩
def ActD.p(x:ActD):PAct:=⟨x.ws,x.os.map OpD.p⟩
def TabD.p(x:TabD):PTab:=⟨x.kind,x.ks,x.al,x.cap,x.dflt,x.zs⟩
def NodeD.p(x:NodeD):PNode:=⟨x.kind,x.n,x.es,x.yes,x.no⟩
def PlanD.p(d:PlanD):PPlan:=⟨d.hs.map HeadD.ws,d.ms,d.ss.map StateD.p,d.al.map ActD.p,d.ts.map TabD.p,d.ns.map NodeD.p,d.os⟩
def PPlan.fields(p:PPlan)(h:Int)(zs:List Int):List Int:=
 if h= -1 then p.ms else if h= -2 then zs else if h= -3 then[16]else if h<0\/(p.hs.length:Int)<=h then[]else p.hs.getD h.toNat []
def PPlan.width(p:PPlan)(r:RefD)(zs:List Int):Int:=
 if r.f<0\/((p.fields r.h zs).length:Int)<=r.f then 0 else(p.fields r.h zs).getD r.f.toNat 0
theorem zkn{d:PlanD}{w:World}(a:d.lie w)(h:Int)(zs:List Int):zE d h zs=d.p.fields h zs:=by
 unfold zE PPlan.fields PlanD.p;simp only[zoE,a.hs.1,zoi,zoy];split
 ·rfl
 split
 ·rfl
 split
 ·rfl
 split
 ·rfl
 ·rename_i h4
  have:h.toNat<d.hs.length:=by rw[a.hs.1];omega
  rw[zoh this];rfl
theorem qD{d:PlanD}{w:World}(a:d.lie w)(r:RefD)(zs:List Int):yU d r.h r.f zs=d.p.width r zs:=by
 unfold yU PPlan.width;rw[zkn a]
def zn:List Int->Int
 |[]=>0
 |x::l=>if x≠0 then x else zn l
def or2(x y:Int):Int:=if x≠0 then x else y
def xz(a:Nat)(k:Int):Int:=if 0<=k/\k<(a:Int)then 0 else 1
def xC(x:Int):Int:=if x<1\/48<x then 6 else 0
def zN(p:PPlan)(zs:List Int):List PushD->Int->Int
 |[],left=>if left≠1 then 13 else 0
 |x::l,left=>if yk x.op<0\/left<yk x.op then 13 else if x.op=2/\p.width x.r zs=0 then 1 else zN p zs l (left+(1-yk x.op))
def xl(p:PPlan)(es:List PushD)(zs:List Int):Int:=if 8<es.length then 2 else zN p zs es 0
def zR(p:PPlan)(r:RefD):Int:=if r.h= -3\/p.width r []=0 then 1 else 0
def zx(p:PPlan)(ws:List Int)(o:POp):Int:=
 if o.kind=1 then or2 (zR p o.r) (xl p o.es ws)else if o.kind=2\/o.kind=3 then xz p.hs.length o.head else if o.kind=4 then 0 else if o.kind=5 then xl p o.es ws else if o.kind=6 then or2 (zR p o.r) (xz p.hs.length o.head)else 5
def ki(p:PPlan)(a:PAct):Int:=if 3<a.ws.length\/5<a.os.length then 2 else or2 (zn (a.ws.map xC)) (zn (a.os.map (zx p a.ws)))
def zP(a:Nat)(n:Nat)(to:Int):Int:=if to<0\/(a:Int)<to then 1 else if to<=(n:Int)then 11 else 0
def doC(p:PPlan)(n:Int):Int:=if 0<=n/\n<(p.al.length:Int)then(if 0<(p.al.getD n.toNat ⟨[],[]⟩).ws.length then 2 else 0)else 1
def xN(p:PPlan)(x:PNode):Int:=
 if x.kind=1 then xz p.ts.length x.n else if x.kind=2 then doC p x.n else if x.kind=3 then xl p x.es []else if x.kind=4 then xz p.hs.length x.n else 5
def yG(p:PPlan)(n:Nat)(x:PNode):Int:=or2 (xN p x) (zn ((if x.kind=3\/x.kind=4 then[x.yes,x.no]else[x.yes]).map (zP p.ns.length n)))
def zf4(p:PPlan)(n:Nat):Int:=if 0<=p.os.getD n 0/\p.os.getD n 0<(p.hs.length:Int)then(if p.os.getD n 0∈p.os.take n then 7 else 0)else 1
end Go.Proofs.YtbmcgbmegcpgnaaGreat
