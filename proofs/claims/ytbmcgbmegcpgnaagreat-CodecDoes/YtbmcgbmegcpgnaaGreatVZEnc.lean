import Derived.Test.YtbmcgbmegcpgnaaGreatVZWr8
import Derived.Test.YtbmcgbmegcpgnaaGreatG9
import Derived.Test.YtbmcgbmegcpgnaaGreatVQGreat2
set_option maxHeartbeats 8000000
set_option maxRecDepth 20000
set_option linter.unusedSimpArgs false
namespace Go.Proofs.YtbmcgbmegcpgnaaGreat
open Go.RowKit
def zpo(x:PlanD):List Int:=[83,89,1]++zpK x
def zpJ(x:PlanD):List Int:=zpo x++Mth.four (Mth.crc (zpo x))
theorem zuY{w:World}:Wr w.heap.size (w.heap.size+1) [83,89,1] ((w.alloc (.cells #[.int .u8 83,.int .u8 89,.int .u8 1] 5 (3,4))).alloc (.cells #[.slice (some ⟨w.heap.size,0,none⟩) 3 3] 70)):=by
 refine⟨⟨some ⟨w.heap.size,0,none⟩,3,?_,.inr ⟨w.heap.size,#[.int .u8 83,.int .u8 89,.int .u8 1],(3,4),rfl,zos _,?_,rfl,by decide⟩⟩,by omega,?_⟩
 ·have:=zpw (w.alloc (.cells #[.int .u8 83,.int .u8 89,.int .u8 1] 5 (3,4))) #[.slice (some ⟨w.heap.size,0,none⟩) 3 3] 70;simpa using this
 ·have hb:Below (w.alloc (.cells #[.int .u8 83,.int .u8 89,.int .u8 1] 5 (3,4))).heap.size (w.alloc (.cells #[.int .u8 83,.int .u8 89,.int .u8 1] 5 (3,4))) ((w.alloc (.cells #[.int .u8 83,.int .u8 89,.int .u8 1] 5 (3,4))).alloc (.cells #[.slice (some ⟨w.heap.size,0,none⟩) 3 3] 70)):=ze (zof _ _);exact(hb.block w.heap.size (by simp)).trans (heap_alloc_new w _)
 ·intro x a;simp only[zoD,zoA,or_false]at a;rcases a with rfl|rfl|rfl<;>decide
theorem Wr.push4{B p:Nat}{bs:List Int}{w:World}(h:Wr B p bs w){a:Option Addr}{c:Nat}(y:w.cell? ⟨p,0,none⟩=some (.slice a bs.length c)){ad:Option Addr}{c4:Nat}{zs:List Int}(hz:Has .u8 w ad 4 zs)(H:bs.length<=9000000)(u:B<=w.heap.size):
 ∃g cap d,(Builtin.append_ #[30,30] 30 #[.slice a bs.length c,.slice ad 4 c4]).run Tryz.prog w=.ok (.slice (some ⟨g,0,none⟩) (bs.length+4) cap) d/\d.ownsRow B 5 1 (.slice (some ⟨g,0,none⟩) (bs.length+4) cap) (bs.length+4) (BB (bs++zs))/\Below B w d/\Fram p w d:=by
 obtain⟨x,t,C,o⟩:=h.ex;have e:(.slice a bs.length c:Value)=.slice x bs.length t:=by
  have:w.cell? ⟨p,0,none⟩=some (.slice x bs.length t):=by simp[World.cell?,C]
  rw[y]at this;exact zoq this
 simp only[zox,true_and]at e;obtain⟨rfl,rfl⟩:=e;have i:=hz;obtain⟨b,off,rfl,_,_⟩:=hz.some (by decide)
 obtain⟨g,cap,d,l,D,s⟩:=o.app (ad:=⟨b,off,none⟩) (m:=4) (c2:=c4) (zs:=zs) i.1 (zht i) (by decide) (by omega) u
 refine⟨g,cap,d,l,D,(zof _ _).grown s u fun k j=>(o.blk j).1,s.size,fun k cs T f E F j=>?_⟩
 have r:=(zoj.1 j).1;have n:some k≠(Value.slice a bs.length c).ownBlock:=fun e=>by
  obtain⟨_,A,G,q⟩:=o.blk e.symm;rw[j]at q;simp only[zoo,Obj.cells.injEq]at q;exact F q.2.1
 exact(s.block k r n).trans j
def zpY(d:PlanD)(w:World)(e:Ending)(w':World):Prop:=
 ((zD d.p).1≠0/\e=.returned (.tuple #[.slice none 0 0,.agg #[.int .i64 (zD d.p).1,.int .i64 (zD d.p).2]])/\Below w.heap.size w w')\/
 ((zD d.p).1=0/\∃g cap,e=.returned (.tuple #[.slice (some ⟨g,0,none⟩) (zpJ d).length cap,.agg #[.int .i64 0,.int .i64 0]])/\w'.ownsRow w.heap.size 5 1 (.slice (some ⟨g,0,none⟩) (zpJ d).length cap) (zpJ d).length (BB (zpJ d))/\Below w.heap.size w w')
theorem zuZ{w w':World}{s:Nat}{v0 v1 v2 v3 v4 v5 v6:Value}(h:w.cell? ⟨s,0,none⟩=some v0/\w.cell? ⟨s,1,none⟩=some v1/\w.cell? ⟨s,2,none⟩=some v2/\w.cell? ⟨s,3,none⟩=some v3/\w.cell? ⟨s,4,none⟩=some v4/\w.cell? ⟨s,5,none⟩=some v5/\w.cell? ⟨s,6,none⟩=some v6)(b:Below w.heap.size w w'):w'.cell? ⟨s,0,none⟩=some v0/\w'.cell? ⟨s,1,none⟩=some v1/\w'.cell? ⟨s,2,none⟩=some v2/\w'.cell? ⟨s,3,none⟩=some v3/\w'.cell? ⟨s,4,none⟩=some v4/\w'.cell? ⟨s,5,none⟩=some v5/\w'.cell? ⟨s,6,none⟩=some v6:=
 ⟨za h.1 b,za h.2.1 b,za h.2.2.1 b,za h.2.2.2.1 b,za h.2.2.2.2.1 b,za h.2.2.2.2.2.1 b,za h.2.2.2.2.2.2 b⟩
structure EncAt (d : PlanD) (w W2 : World) (s f : Nat) : Prop where
 cs : W2.cell? ⟨s, 0, none⟩ = some (.slice d.heads.a d.heads.n d.heads.c) /\ W2.cell? ⟨s, 1, none⟩ = some (.slice d.mta.a d.mta.n d.mta.c) /\ W2.cell? ⟨s, 2, none⟩ = some (.slice d.states.a d.states.n d.states.c) /\ W2.cell? ⟨s, 3, none⟩ = some (.slice d.acts.a d.acts.n d.acts.c) /\ W2.cell? ⟨s, 4, none⟩ = some (.slice d.tabs.a d.tabs.n d.tabs.c) /\ W2.cell? ⟨s, 5, none⟩ = some (.slice d.nodes.a d.nodes.n d.nodes.c) /\ W2.cell? ⟨s, 6, none⟩ = some (.slice d.out.a d.out.n d.out.c)
 f0 : W2.cell? ⟨f, 0, none⟩ = some (.int .i64 0)
 f1 : W2.cell? ⟨f, 1, none⟩ = some (.int .i64 0)
 fz : ∀ o, W2.frozen? ⟨f, o, none⟩ = false
 fl : f < W2.heap.size
 wf : w.heap.size <= f
 sl : s < f
theorem ztD(d:PlanD)(w:World):EncAt d w ((w.alloc (.cells #[.slice d.heads.a d.heads.n d.heads.c,.slice d.mta.a d.mta.n d.mta.c,.slice d.states.a d.states.n d.states.c,.slice d.acts.a d.acts.n d.acts.c,.slice d.tabs.a d.tabs.n d.tabs.c,.slice d.nodes.a d.nodes.n d.nodes.c,.slice d.out.a d.out.n d.out.c] 29)).alloc (.cells #[.int .i64 0,.int .i64 0] 35)) w.heap.size (w.heap.size+1):=by
 refine⟨⟨?_,?_,?_,?_,?_,?_,?_⟩,?_,?_,fun o=>?_,by simp,by omega,by omega⟩
 ·exact(zoe _ _ _ (by simp)).trans ((zod _ _ _ _ rfl).trans rfl)
 ·exact(zoe _ _ _ (by simp)).trans ((zod _ _ _ _ rfl).trans rfl)
 ·exact(zoe _ _ _ (by simp)).trans ((zod _ _ _ _ rfl).trans rfl)
 ·exact(zoe _ _ _ (by simp)).trans ((zod _ _ _ _ rfl).trans rfl)
 ·exact(zoe _ _ _ (by simp)).trans ((zod _ _ _ _ rfl).trans rfl)
 ·exact(zoe _ _ _ (by simp)).trans ((zod _ _ _ _ rfl).trans rfl)
 ·exact(zoe _ _ _ (by simp)).trans ((zod _ _ _ _ rfl).trans rfl)
 ·exact(zod _ _ _ _ (by simp)).trans rfl
 ·exact(zod _ _ _ _ (by simp)).trans rfl
 ·exact zoB _ _ _ _ (by simp)
theorem EncAt.step{d:PlanD}{w a c:World}{s f:Nat}(h:EncAt d w a s f)(b:Below a.heap.size a c):EncAt d w c s f:=
 ⟨zuZ h.cs b,za h.f0 b,za h.f1 b,fun o=>(b.frozen (p:=⟨f,o,none⟩) h.fl).trans (h.fz o),zom h.fl b.size,h.wf,h.sl⟩
theorem zsz(d:PlanD)(w:World)(u:d.lie w)(hs:d.small)(m:(zD d.p).1≠0):Calls Tryz.prog 7 #[d.v] w (zpY d w):=by
 obtain⟨i,hW⟩:∃i,i=((w.alloc (.cells #[.slice d.heads.a d.heads.n d.heads.c,.slice d.mta.a d.mta.n d.mta.c,.slice d.states.a d.states.n d.states.c,.slice d.acts.a d.acts.n d.acts.c,.slice d.tabs.a d.tabs.n d.tabs.c,.slice d.nodes.a d.nodes.n d.nodes.c,.slice d.out.a d.out.n d.out.c] 29)).alloc (.cells #[.int .i64 0,.int .i64 0] 35)):=⟨_,rfl⟩;obtain⟨s,es⟩:∃s,s=w.heap.size:=⟨_,rfl⟩;obtain⟨f,ef⟩:∃f,f=w.heap.size+1:=⟨_,rfl⟩;have l:Hid (EncAt d w i s f):=by rw[hW,es,ef];exact ztD d w
 have q:Hid (Below w.heap.size w i):=by rw[hW];exact ze (ze (zof _ _))
 have k:=hid (zcT d i (u.step q.out) hs);have x:Hid (∀w',Below w.heap.size w w'->zpY d w (.returned (.tuple #[.slice none 0 0,.agg #[.int .i64 (zD d.p).1,.int .i64 (zD d.p).2]])) w'):=fun w' h=>.inl ⟨m,rfl,h⟩
 have E:((zD d.p).1 !=0)=true:=by rw[bne_iff_ne];exact m
 have t:=hid hW;have r:=hid es;have y:=hid ef;clear u hs m hW es ef;generalize(zD d.p).1=C at*;generalize(zD d.p).2=A at*;go_enter Tryz.func7,Tryz.ntmps7
 go_wp2_with fail
 rw[<-t.out,<-y.out,<-r.out];refine k.out.mono ?_;rintro e B ⟨rfl,g⟩;clear k t r y;have b:=hid (l.out.step g);have j:=hid (zh q.out g);have c0:=b.out.f0;have c1:=b.out.f1;have z0:=b.out.fz 0;have z1:=b.out.fz 1;have D:f<B.heap.size:=b.out.fl;have F:Hid (∀o,zpY d w (.returned (.tuple #[.slice none 0 0,.agg #[.int .i64 C,.int .i64 A]])) (((B.setCell ⟨f,0,none⟩ (.int .i64 C)).setCell ⟨f,1,none⟩ (.int .i64 A)).alloc o).drew):=fun o=>x.out _ (ze ((j.out.setCell (p:=⟨f,0,none⟩) l.out.wf _).setCell (p:=⟨f,1,none⟩) l.out.wf _)).drew
 clear l q b x j g;go_wp2_with fail
 go_region
 all_goals
  go_wp2;exact bodyPost_ret (v:=.tuple #[.slice none 0 0,.agg #[.int .i64 C,.int .i64 A]]) (by simp[results,Tryz.results7,go_sem, *]) rfl (F.out _)
end Go.Proofs.YtbmcgbmegcpgnaaGreat
