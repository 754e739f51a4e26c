import Derived.Test.YtdajaaondlekfaaGreatG0
import Derived.Test.YtdajaaondlekfaaGreatG1
import Derived.Deep.RegionLaw
import Derived.Test.YtdajaaondlekfaaGreatVBase
import Derived.Laws.BitsLemmas
import Derived.Laws.BitsAllLaws
set_option maxHeartbeats 2000000
set_option maxRecDepth 20000
set_option linter.unusedSimpArgs false
namespace Go.Proofs.YtdajaaondlekfaaGreat
open Go.RowKit
@[reducible] def yt(n:Int):Prop:=(Lit.int .i64 n).wf=true
@[reducible] def kM(n:Int):Prop:=(Lit.int .u64 n).wf=true
structure ShapeD where
 keys : Int
 acts : Int
 args : Int
def ShapeD.lie(d:ShapeD)(w:World)(g o:Nat):Prop:=CI w g o d.keys/\CI w g (o+1) d.acts/\CI w g (o+2) d.args
theorem ShapeD.keeps:jw ShapeD.lie:=fun h b=>⟨h.1.step b,h.2.1.step b,h.2.2.step b⟩
@[reducible] def ShapeD.v(d:ShapeD):Value:=.agg #[.int .i64 d.keys,.int .i64 d.acts,.int .i64 d.args]
def ShapeD.wf(d:ShapeD):Prop:=yt d.keys/\yt d.acts/\yt d.args
structure InsD where
 op : Int
 r : Int
 s : Int
 k : Int
 to : Int
 n : Int
def InsD.lie(d:InsD)(w:World)(g o:Nat):Prop:=CI w g o d.op/\CI w g (o+1) d.r/\CI w g (o+2) d.s/\CI w g (o+3) d.k/\CI w g (o+4) d.to/\CU w g (o+5) d.n
theorem InsD.keeps:jw InsD.lie:=fun h b=>⟨h.1.step b,h.2.1.step b,h.2.2.1.step b,h.2.2.2.1.step b,h.2.2.2.2.1.step b,h.2.2.2.2.2.step b⟩
@[reducible] def InsD.v(d:InsD):Value:=.agg #[.int .i64 d.op,.int .i64 d.r,.int .i64 d.s,.int .i64 d.k,.int .i64 d.to,.int .u64 d.n]
def InsD.wf(d:InsD):Prop:=yt d.op/\yt d.r/\yt d.s/\yt d.k/\yt d.to/\kM d.n
theorem ShapeD.lie.wf{d:ShapeD}{w:World}{g o:Nat}(h:d.lie w g o):d.wf:=⟨h.1.2,h.2.1.2,h.2.2.2⟩
theorem InsD.lie.wf{d:InsD}{w:World}{g o:Nat}(h:d.lie w g o):d.wf:=⟨h.1.2,h.2.1.2,h.2.2.1.2,h.2.2.2.1.2,h.2.2.2.2.1.2,h.2.2.2.2.2.2⟩
structure ProgD where
 slots : Int
 tabs : QSl
 ts : List ShapeD
 code : QSl
 cs : List InsD
structure ProgD.lie (d : ProgD) (w : World) : Prop where
 ws : yt d.slots
 n1 : d.tabs.nil0
 n2 : d.code.nil0
 t : QRow 3 ShapeD.lie w d.tabs d.ts
 c : QRow 6 InsD.lie w d.code d.cs
@[reducible] def ProgD.v(d:ProgD):Value:=.agg #[.int .i64 d.slots,.slice d.tabs.a d.tabs.n d.tabs.c,.slice d.code.a d.code.n d.code.c]
theorem ProgD.lie.step{d:ProgD}{w w':World}(h:d.lie w)(b:Below w.heap.size w w'):d.lie w':=⟨h.ws,h.n1,h.n2,h.t.step ShapeD.keeps b,h.c.step InsD.keeps b⟩
def ProgD.small(d:ProgD):Prop:=d.tabs.n<=300/\d.code.n<=65535
theorem zV{α :Type}{k:Nat}{P: α->World->Nat->Nat->Prop}{w:World}{s:QSl}{S:List α}(h:QRow k P w s S){i:Nat}(hi:i<s.n):∃g off x,s.a=some ⟨g,off,none⟩/\S[i]?=some x/\P x w g (off+i*k):=by
 have b:i<S.length:=by rw[h.1];exact hi
 obtain⟨g,off,e,c⟩:=h.2 i _ (zoh b);exact⟨g,off,_,e,zoh b,c⟩
def zQ(op:Int):Int:=
 if op=1\/op=7\/op=8 then 17 else if op=2\/op=5 then 3 else if op=3 then 7 else if op=4\/op=15\/op=16\/op=18 then 1 else if op=6\/op=13 then 23 else if op=9 then 25 else if op=10\/op=11 then 11 else if op=12 then 8 else if op=14 then 5 else 0
def xd(op:Int):Bool:=zQ op%2==1
def xe(op:Int):Bool:=zQ op/2%2==1
def xg(op:Int):Bool:=zQ op/4%2==1
def ym(op:Int):Bool:=zQ op/8%2==1
def xi(op:Int):Bool:=zQ op/16%2==1
def inB(n a b:Int):Bool:=decide (a<=n)&&decide (n<=b)
def zr(x:InsD):Bool:=(xd x.op||decide (x.r=0))&&(xe x.op||decide (x.s=0))&&(xg x.op||decide (x.k=0))&&(ym x.op||decide (x.to=0))&&(xi x.op||decide (x.n=0))
def zcu(x:InsD):Bool:=inB x.r 0 9&&(decide (x.op=13)||inB x.s 0 9)
def zaA(x:InsD):Bool:=inB x.op 1 18&&zr x&&zcu x&&decide (0<=x.to)
def zeC(slots:Int)(ts:List ShapeD)(x:InsD):Bool:=match ts[x.n.toNat]? with
 |none=>false
 |some t=>inB x.s 0 (slots-t.keys)&&inB x.k 0 (slots-t.args)
def jg(slots:Int)(ts:List ShapeD)(x:InsD):Bool:=
 if x.op=3 then inB x.k 3 12 else if x.op=6 then inB x.k 1 8&&decide (x.n<=600)else if x.op=14 then inB x.k 1 8 else if x.op=9 then decide (x.n<=600)else if x.op=7\/x.op=8 then decide (x.n<slots)else if x.op=13 then zeC slots ts x else true
def qt(slots:Int)(ts:List ShapeD)(m i:Int)(x:InsD):Int:=if(zaA x&&jg slots ts x)=false then 4 else if(ym x.op&&decide (m-1-i<=x.to))=true then 17 else 0
def xS(t:ShapeD):Bool:=inB t.keys 1 3&&inB t.acts 1 8&&inB t.args 0 3
def xp:List ShapeD->Int->Int × Int
 |[],_=>(0,0)
 |t::r,i=>if xS t=true then xp r (i+1)else(1,-2-i)
def yS(slots:Int)(ts:List ShapeD)(m:Int):Int × Int:=if inB slots 0 96=false then(1,-1)else if(decide (5<(ts.length:Int))||!inB m 1 60000)=true then(2,-1)else xp ts 0
def kG(slots:Int)(ts:List ShapeD)(m:Int):List InsD->Int->Int × Int
 |[],_=>(0,0)
 |x::r,i=>if qt slots ts m i x=0 then kG slots ts m r (i+1)else(qt slots ts m i x,i)
def jh(op:Int):Bool:=decide (op=16)||decide (op=17)
def xJ(slots:Int)(ts:List ShapeD)(cs:List InsD):Int × Int:=
 if(yS slots ts cs.length).1≠0 then yS slots ts cs.length else if(kG slots ts cs.length cs 0).1≠0 then kG slots ts cs.length cs 0 else if jh ((cs[cs.length-1]?.map InsD.op).getD 0)=true then(0,0)else(18,(cs.length:Int)-1)
def zw(b:Bool)(w:World)(e:Ending)(w':World):Prop:=e=.returned (.bool b)/\Below w.heap.size w w'
theorem zar(n a b:Int)(w:World):Calls Tryz.prog 122 #[.int .i64 n,.int .i64 a,.int .i64 b] w fun e w'=>e=.returned (.bool (inB n a b))/\w'=w:=by
 unfold inB;by_cases d:a<=n
 ·have c:=zoY d;rw[c,Bool.true_and];go_enter Tryz.func122,Tryz.ntmps122
  go_wp2;go_ret;exact⟨rfl,rfl⟩
 ·have c:=zoX d;rw[c,Bool.false_and];go_enter Tryz.func122,Tryz.ntmps122
  go_wp2;go_ret;exact⟨rfl,rfl⟩
theorem zmi(n:Int)(w:World):Calls Tryz.prog 54 #[.int .i64 n] w fun e w'=>e=.returned (.bool (jh n))/\w'=w:=by
 unfold jh;by_cases a:n=16
 ·subst a;go_enter Tryz.func54,Tryz.ntmps54
  go_wp2;go_ret;exact⟨rfl,rfl⟩
 ·rw[zoX a,Bool.false_or];by_cases h2:n=17
  ·subst h2;go_enter Tryz.func54,Tryz.ntmps54
   go_wp2;go_ret;exact⟨rfl,rfl⟩
  ·have c:(n==16)=false:=by simpa using a
   have b:(n==17)=false:=by simpa using h2
   rw[zoX h2];go_enter Tryz.func54,Tryz.ntmps54
   go_wp2;go_ret;exact⟨rfl,rfl⟩
theorem zmQ(n:Int)(w:World):Calls Tryz.prog 197 #[.int .i64 n] w fun e w'=>e=.returned (.bool (inB n 0 9))/\w'=w:=by
 have a:=hid (zar n 0 9 w);go_enter Tryz.func197,Tryz.ntmps197
 go_wp2_with fail
 refine a.out.mono ?_;rintro e b ⟨rfl,rfl⟩;go_wp2;go_ret;exact⟨rfl,rfl⟩
theorem zjw(d:ShapeD)(w:World):Calls Tryz.prog 123 #[d.v] w (zw (xS d) w):=by
 have f:=hid (fun n a b w=>zar n a b w)
 have c:Hid (∀o,zw (xS d) w (.returned (.bool (xS d))) (w.alloc o)):=fun o=>⟨rfl,ze (zof _ _)⟩
 unfold xS at c ⊢;obtain⟨k,a,g⟩:=d;dsimp only[ShapeD.v]at c ⊢;generalize j:inB k 1 3=K at*;generalize m:inB a 1 8=A at*;have i:=hid j;have l:=hid m;clear j m;cases K
 ·rw[Bool.false_and,Bool.false_and]at c ⊢;go_enter Tryz.func123,Tryz.ntmps123
  go_wp2_with fail
  refine(f.out _ _ _ _).mono ?_;rintro e h ⟨rfl,rfl⟩;rw[i.out];go_wp2;go_ret;exact c.out _
 ·rw[Bool.true_and]at c ⊢;cases A
  ·rw[Bool.false_and]at c ⊢;go_enter Tryz.func123,Tryz.ntmps123
   go_wp2_with fail
   refine(f.out _ _ _ _).mono ?_;rintro e h ⟨rfl,rfl⟩;rw[i.out];go_wp2_with fail
   refine(f.out _ _ _ _).mono ?_;rintro e h ⟨rfl,rfl⟩;rw[l.out];go_wp2;go_ret;exact c.out _
  ·rw[Bool.true_and]at c ⊢;go_enter Tryz.func123,Tryz.ntmps123
   go_wp2_with fail
   refine(f.out _ _ _ _).mono ?_;rintro e h ⟨rfl,rfl⟩;rw[i.out];go_wp2_with fail
   refine(f.out _ _ _ _).mono ?_;rintro e h ⟨rfl,rfl⟩;rw[l.out];go_wp2_with fail
   refine(f.out _ _ _ _).mono ?_;rintro e h ⟨rfl,rfl⟩;go_wp2;go_ret;exact c.out _
def zdZ(l:List Int):Prop:=∀x∈l,0<=x/\x<256
theorem zcy{zs:List Int}(h:zdZ zs):Mth.Bytes zs:=fun i=>by
 by_cases hi:i<zs.length
 ·rw[zoi,zoh hi,zoC];exact h _ (List.getElem_mem hi)
 ·simp[zoi,List.getElem?_eq_none (Nat.le_of_not_lt hi)]
theorem zmP(s:Nat):IntKind.u8.wrap (s:Int)=((s%256:Nat):Int):=by
 simp[IntKind.wrap,IntKind.bits,IntKind.signed]
theorem za8{w:World}{cs:List Value}{T:TypeId}:∀j u,cs[j]?=some u->(w.alloc (.cells cs.toArray T)).cell? ((⟨w.heap.size,0,none⟩:Addr).add j)=some u:=by
 intro j u h;rw[Addr.add_lit,zoK,zod _ _ _ _ rfl];simpa using h
theorem zZ{w w':World}{base n k:Nat}{T:TypeId}{v:Value}{xs:List Value}(h:w.ownsRow base T k v n xs)(b:Below w.heap.size w w'):w'.ownsRow base T k v n xs:=
 h.kept (row:=none) ⟨b.os,b.tape,b.output,b.size,fun k a _=>b.block k a⟩ (by cases v.ownBlock<;>simp)
theorem za9{w:World}{T t:TypeId}{z:Value}{k bs:Nat}(ty:TypeId)(H:Tryz.prog.underlying t=some (.slice T))(x:(Tryz.prog.info? T).map (fun i=>(i.zero,i.size,i.bytes))=some (some z,k,bs))(F:z.cells.size=k)(S:0<k)
 {base n cap:Nat} {la:Option Addr} {xs news:List Value} {ad:Addr} {m c:Nat} (a:w.ownsRow base T k (.slice la n cap) n xs) (G:news.length=m*k) (K:∀j u,news[j]?=some u->w.cell? (ad.add j)=some u) (N:∀u∈news,u.oneCell'=true) (hm:0<m)
 (A:n+m<=maxLen) (C:(n+m)*bs<=140737488355328) (l:base<=w.heap.size):
 ∃g o w',(Builtin.append_ #[t,t] ty #[.slice la n cap,.slice (some ad) m c]).run Tryz.prog w=.ok (.slice (some ⟨g,0,none⟩) (n+m) o) w'/\w'.ownsRow base T k (.slice (some ⟨g,0,none⟩) (n+m) o) (n+m) (xs++news)/\w.grownBy w' (Value.slice la n cap).ownBlock/\(la=some ⟨g,0,none⟩\/w.heap.size<=g):=by
 obtain⟨J,hi,s,f,q⟩:=info_parts x;have form:∀{v':Value} {w':World} {B:Nat} {R:List Value},w'.ownsRow B T k v' (n+m) R->∃g c,v'=.slice (some ⟨g,0,none⟩) (n+m) c:=by
  intro v' w' B R h;rcases h.2 with⟨_,e⟩|⟨g,c,Q,e,_⟩
  ·omega
  ·exact⟨g,c,e⟩
 rcases a.2 with⟨U,e2⟩|⟨g,V,Q,e,hb,hh,Z,a0,W,a1⟩
 ·simp only[zox]at U;obtain⟨rfl,_,rfl⟩:=U;subst e2;have L:xs=[]:=zoG (by have:=a.1;omega)
  subst L;obtain⟨v',w',b,r1,E,-⟩:=run_append_own (P:=Tryz.prog) w w.heap.size t ty T J z k bs H hi s f q F S (.slice none 0 0) 0 [] (zoH _ _ _ _) ad m c news G K N A C (zos _);obtain⟨I,O,rfl⟩:=form r1;exact⟨I,O,w',b,⟨r1.1,by
   rcases r1.2 with h|⟨g2,c2,D,Y,M,r⟩
   ·exact .inl h
   ·exact .inr ⟨g2,c2,D,Y,zoz l M,r⟩⟩,E,.inr (r1.lt I rfl).1⟩
 ·simp only[zox,true_and]at e;obtain⟨rfl,rfl⟩:=e;by_cases y:n+m<=cap
  ·obtain⟨w',b,r1,E⟩:=run_append_fits (P:=Tryz.prog) w base t ty T J k H hi f g n cap xs a ad m c news G K N y;exact⟨g,cap,w',b,r1,E,.inl rfl⟩
  ·obtain⟨v',w',b,r1,E,-⟩:=run_append_own (P:=Tryz.prog) w base t ty T J z k bs H hi s f q F S (.slice (some ⟨g,0,none⟩) n cap) n xs a ad m c news G K N A C l;obtain⟨I,O,rfl⟩:=form r1;have d:=run_append_grow (P:=Tryz.prog) w t ty T J z H hi s ⟨g,0,none⟩ n cap xs (by rw[f];exact a.1) (fun j v X=>a.cells rfl j v X) ad m c news (by rw[f];exact G) K (by omega) (by unfold maxLen at A;omega) (by rw[q];exact growslice_fits (by omega) (by omega))
   rw[b]at d;simp only[Result.ok.injEq,zox,zoo,Addr.mk.injEq,and_true]at d;exact⟨I,O,w',b,r1,E,.inr (Nat.le_of_eq d.1.1.symm)⟩
theorem jj{w w':World}{ops:Array Oper}{rest:List Oper}{o:Oper}{a:Act}{Q:Exit->Act->World->Prop}{c:TypeId}(d:o.guard=none)(s x:Operand)
 (g:o.op=.call {callee:=.builtin .append,args:= #[s,x],argTypes:= #[c,c]}) {e f v':Value} (hs:a.eval s=e) (j:a.eval x=f) (b:(Builtin.append_ #[c,c] o.type #[e,f]).run Tryz.prog w=.ok v' w')
 (h:wpList Tryz.prog ops Q rest (a.put o.dst v') w'):wpList Tryz.prog ops Q (o::rest) a w:=
 wpList_plain d fun _ i=>by
  unfold Oper.wp execOp;simp only[g,resolve,invoke,builtin,Sem.run_bind,Sem.run_pure,Result.andThen_ok,List.map_toArray,List.map_cons,List.map_nil,hs,j,b];exact i _ _ h
theorem zhL{w w':World}{ops:Array Oper}{o:Oper}{a:Act}{K:Act->World->Prop}{Q:Exit->Act->World->Prop}{E:Prop}{c:TypeId}(d:o.guard=none)(s x:Operand)
 (g:o.op=.call {callee:=.builtin .append,args:= #[s,x],argTypes:= #[c,c]}) {e f v':Value} (hs:a.eval s=e) (i:a.eval x=f) (b:(Builtin.append_ #[c,c] o.type #[e,f]).run Tryz.prog w=.ok v' w')
 (h:K (a.put o.dst v') w'):if Region.wanted o (yielded ops a.tmps)=true then Oper.wp Tryz.prog o a w K Q else E:=by
 have hw:Region.wanted o (yielded ops a.tmps)=true:=by simp[Region.wanted,d]
 rw[if_pos hw];unfold Oper.wp execOp;simp only[g,resolve,invoke,builtin,Sem.run_bind,Sem.run_pure,Result.andThen_ok,List.map_toArray,List.map_cons,List.map_nil,hs,i,b];exact h
def GFram(p:Nat)(w w':World):Prop:=w.heap.size<=w'.heap.size/\∀k cs T f,k≠p->T≠5->w.heap[k]?=some (.cells cs T f)->w'.heap[k]?=some (.cells cs T f)
theorem GFram.trans{p:Nat}{a b c:World}(h:GFram p a b)(k:GFram p b c):GFram p a c:=⟨zoz h.1 k.1,fun j cs T f d h2 e=>k.2 j cs T f d h2 (h.2 j cs T f d h2 e)⟩
theorem GFram.refl(p:Nat)(w:World):GFram p w w:=⟨zos _,fun _ _ _ _ _ _ h=>h⟩
theorem GFram.below{p:Nat}{w w':World}(b:Below w.heap.size w w'):GFram p w w':=⟨b.size,fun k _ _ _ _ _ h=>(b.block k (zoj.1 h).1).trans h⟩
end Go.Proofs.YtdajaaondlekfaaGreat
namespace Go.Proofs.YtdajaaondlekfaaGreat
open Go.RowKit Mth
def II(zs:List Int):List Value:=zs.map (Value.int .i64)
theorem Tryz.infoInt:(Tryz.prog.info? 3).map (fun i=>(i.zero,i.size,i.bytes))=some (some (.int .i64 0),1,8):=by kernel_rfl
theorem zge(zs:List Int):∀u∈II zs,u.oneCell'=true:=by
 intro u a;simp only[II,zoJ]at a;obtain⟨x,_,rfl⟩:=a;rfl
theorem zaN{w:World}{ad:Addr}{m:Nat}{zs:List Int}(h:Has .i64 w (some ad) m zs):∀(j:Nat) (u:Value),(II zs)[j]?=some u->w.cell? (ad.add j)=some u:=by
 intro j u c;have a:j<zs.length:=by
  have:=(zok.1 c).1;simpa[II]using this
 have f:=h.1;obtain⟨b,off,e,_,d⟩:=h.some (by omega)
 simp only[zoo]at e;subst e;rw[Addr.add_lit,d j (by omega)]
 simp only[II,zoy,zoh a,Option.map_some,zoo]at c;simp only[zoi,zoh a,zoC,c]
theorem kJ{w:World}{base len:Nat}{a:Option Addr}{cap:Nat}{zs:List Int}(h:w.ownsRow base 3 1 (.slice a len cap) len (II zs))(hb:∀n∈zs,(Lit.int .i64 n).wf=true):Has .i64 w a len zs:=by
 have b:zs.length=len:=by simpa[II]using h.1
 rcases h.2 with⟨e,rfl⟩|⟨g,cap,c,e,_⟩
 ·exact⟨b,hb,.inl (zoG b)⟩
 ·simp only[zox]at e;obtain⟨rfl,_,rfl⟩:=e;refine⟨b,hb,.inr ⟨g,0,rfl,(h.lt g rfl).2,fun i hi=>?_⟩⟩
  rw[zoK,h.cellAt i (by omega)]
  simp only[II,zoy,zoi];rw[zoh (by omega)];rfl
theorem zky{ops:Array Oper}{o:Oper}{a:Act}{w:World}{K:Act->World->Prop}{Q:Exit->Act->World->Prop}{E:Prop}(l:o.guard=none)(s x:Operand)
 (n:o.op=.call {callee:=.builtin .append,args:= #[s,x],argTypes:= #[23,23]}) (m c:Nat) (zs:List Int) (ad:Option Addr)
 (hs:a.eval s=.slice none 0 0) (q:a.eval x=.slice ad m c) (y:ad=none->m=0/\c=0) (f:Has .i64 w ad m zs) (d:m<=10000000)
 (h:∀v' w',w'.ownsRow w.heap.size 3 1 v' m (II zs)->Below w.heap.size w w'->K (a.put o.dst v') w'):
 if Region.wanted o (yielded ops a.tmps)=true then Oper.wp Tryz.prog o a w K Q else E:=by
 have hw:Region.wanted o (yielded ops a.tmps)=true:=by simp[Region.wanted,l]
 rw[if_pos hw];obtain⟨r,hi,i,g,j⟩:=info_parts Tryz.infoInt;cases ad with
 |none=>
  obtain⟨rfl,rfl⟩:=y rfl;have e:zs=[]:=zoG f.1;subst e;have b:=run_append_owned_none (P:=Tryz.prog) (w:=w) w.heap.size 23 o.type 3 r 1 Tryz.underlying23 hi (.slice none 0 0) 0 [] (zoH _ _ _ _);unfold Oper.wp execOp;simp only[n,resolve,invoke,builtin,Sem.run_bind,Sem.run_pure,Result.andThen_ok,List.map_toArray,List.map_cons,List.map_nil,hs,q,b];exact h _ _ (zoH _ _ _ _) (zof _ _)
 |some ad=>
  refine wp_append_own w s x 23 n w.heap.size 3 r (.int .i64 0) 1 8 Tryz.underlying23 hi i g j rfl (by decide) (.slice none 0 0) 0 [] hs (zoH _ _ _ _) ad m c (II zs) q (by have:=f.1;simp[II];omega) (zaN f) (zge zs) (by unfold maxLen;omega) (by omega) (zos _) ?_
  intro v' w' t h2 _;rw[zoK,List.nil_append]at t;exact h v' w' t ((zof _ _).grown h2 (zos _) (by intro k u;simp[Value.ownBlock]at u))
theorem qi(w:World)(x:Int)(b:(Lit.int .i64 x).wf=true):Has .i64 (w.alloc (.cells #[.int .i64 x] 3)) (some ⟨w.heap.size,0,none⟩) 1 [x]:=by
 refine⟨rfl,?_,.inr ⟨w.heap.size,0,rfl,by simp,fun i hi=>?_⟩⟩
 ·intro n a;simp only[zoD,zoA,or_false]at a;subst a;exact b
 ·have:i=0:=by omega
  subst this;simp
end Go.Proofs.YtdajaaondlekfaaGreat
namespace Go.Proofs.YtdajaaondlekfaaGreat.Mth
def add(a b:Int):Int:=if a%65536+b%65536>65535 then a%65536+b%65536-65535 else a%65536+b%65536
def wd(zs:List Int)(i:Nat):Int:=256*zs.getD i 0+zs.getD (i+1) 0
def less(v:Int):Int:=65535-v%65536
def turn(s x y:Int):Int:=less (add (add (less s) (less x)) y)
theorem add_range(a b:Int):0<=add a b/\add a b<=65535:=by unfold add;split<;>omega
end Go.Proofs.YtdajaaondlekfaaGreat.Mth
namespace Go.Proofs.YtdajaaondlekfaaGreat
open Go.RowKit
theorem zkB(n:Int):bits BinOp.and IntKind.i64 n 65535=n%65536:=by
 have b:(BitVec.ofInt 64 65535).toNat=2^16-1:=by decide
 have a:(BitVec.ofInt 64 n&&& BitVec.ofInt 64 65535).toNat=(n%((2^64:Nat):Int)).toNat%2^16:=by
  rw[BitVec.toNat_and,BitVec.toNat_ofInt,b,Nat.and_two_pow_sub_one_eq_mod]
 show IntKind.i64.wrap ((BitVec.ofInt 64 n&&& BitVec.ofInt 64 65535).toNat:Nat)=n%65536;rw[a,IntKind.wrap_i64];omega
theorem zha(n:Int)(w:World):Calls Tryz.prog 166 #[.int .i64 n] w fun e w'=>e=.returned (.int .i64 (n%65536))/\w'=w:=by
 go_enter Tryz.func166,Tryz.ntmps166
 go_wp2;go_ret;exact⟨xv (zkB n),rfl⟩
theorem zlU(a b:Int)(w:World):Calls Tryz.prog 130 #[.int .i64 a,.int .i64 b] w fun e w'=>e=.returned (.int .i64 (Mth.add a b))/\w'=w:=by
 unfold Mth.add;have:=Int.emod_nonneg a (show(65536:Int)≠0 by decide)
 have:=Int.emod_lt_of_pos a (show(0:Int)<65536 by decide)
 have:=Int.emod_nonneg b (show(65536:Int)≠0 by decide)
 have:=Int.emod_lt_of_pos b (show(0:Int)<65536 by decide)
 have la:=zha a;have d:=zha b;generalize a%65536=x at*;generalize b%65536=y at*;have c:=hid la;have f:=hid d;clear la d;by_cases h:x+y>65535
 ·rw[if_pos h];go_enter Tryz.func130,Tryz.ntmps130
  go_wp2_with fail
  refine(c.out _).mono ?_;rintro e w' ⟨rfl,rfl⟩;go_wp2_with fail
  refine(f.out _).mono ?_;rintro e w' ⟨rfl,rfl⟩;go_wp2;go_ret;exact⟨rfl,rfl⟩
 ·rw[if_neg h];go_enter Tryz.func130,Tryz.ntmps130
  go_wp2_with fail
  refine(c.out _).mono ?_;rintro e w' ⟨rfl,rfl⟩;go_wp2_with fail
  refine(f.out _).mono ?_;rintro e w' ⟨rfl,rfl⟩;go_wp2;go_ret;exact⟨rfl,rfl⟩
end Go.Proofs.YtdajaaondlekfaaGreat
