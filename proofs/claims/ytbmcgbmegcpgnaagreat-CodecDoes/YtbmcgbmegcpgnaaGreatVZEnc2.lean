import Derived.Test.YtbmcgbmegcpgnaaGreatVZEnc
import Derived.Lib.SlBytesConst
set_option maxHeartbeats 8000000
set_option maxRecDepth 20000
set_option linter.unusedSimpArgs false
namespace Go.Proofs.YtbmcgbmegcpgnaaGreat
open Go.RowKit
theorem zrE(d:PlanD):(zpJ d).length=(zpo d).length+4:=by simp[zpJ,Mth.four]
theorem zrT(d:PlanD)(w:World)(hl:d.lie w)(hs:d.small)(hf:d.wfew)(hn:(zpo d).length<=9000000)(hc:(zD d.p).1=0):Calls Tryz.prog 7 #[d.v] w (zpY d w):=by
 obtain⟨F,hW⟩:∃F,F=((w.alloc (.cells #[.slice d.heads.a d.heads.n d.heads.c,.slice d.mta.a d.mta.n d.mta.c,.slice d.states.a d.states.n d.states.c,.slice d.acts.a d.acts.n d.acts.c,.slice d.tabs.a d.tabs.n d.tabs.c,.slice d.nodes.a d.nodes.n d.nodes.c,.slice d.out.a d.out.n d.out.c] 29)).alloc (.cells #[.int .i64 0,.int .i64 0] 35)):=⟨_,rfl⟩;obtain⟨s,es⟩:∃s,s=w.heap.size:=⟨_,rfl⟩;obtain⟨f,ef⟩:∃f,f=w.heap.size+1:=⟨_,rfl⟩;have HA:Hid (EncAt d w F s f):=by rw[hW,es,ef];exact ztD d w
 have HB:Hid (Below w.heap.size w F):=by rw[hW];exact ze (ze (zof _ _))
 have a3:F.heap[f]?=some (.cells #[.int .i64 0,.int .i64 0] 35 (0,0)):=by
  rw[hW,ef];have:=zpw (w.alloc (.cells #[.slice d.heads.a d.heads.n d.heads.c,.slice d.mta.a d.mta.n d.mta.c,.slice d.states.a d.states.n d.states.c,.slice d.acts.a d.acts.n d.acts.c,.slice d.tabs.a d.tabs.n d.tabs.c,.slice d.nodes.a d.nodes.n d.nodes.c,.slice d.out.a d.out.n d.out.c] 29)) #[.int .i64 0,.int .i64 0] 35;simpa using this
 have a4:=hid a3;have V:=hid (zcT d F (hl.step HB.out) hs);have HE:Hid (∀g cap w',w'.ownsRow w.heap.size 5 1 (.slice (some ⟨g,0,none⟩) ((zpo d).length+4) cap) ((zpo d).length+4) (BB (zpJ d))->Below w.heap.size w w'->zpY d w (.returned (.tuple #[.slice (some ⟨g,0,none⟩) ((zpo d).length+4) cap,.agg #[.int .i64 0,.int .i64 0]])) w'):=fun g cap w' h1 Q=>.inr ⟨hc,g,cap,by rw[zrE],by rw[zrE];exact h1,Q⟩
 have EW:=hid hW;have ES:=hid es;have EF:=hid ef;have HL:=hid hl;have a9:=hid hf;have HN:=hid hn;have R:=hid hc;clear hl hs hc hW es ef hf hn a3;go_enter Tryz.func7,Tryz.ntmps7
 go_wp2_with fail
 rw[<-EW.out,<-EF.out,<-ES.out];refine V.out.mono ?_;rintro e b ⟨rfl,L⟩;rw[R.out];clear V EW ES EF R;generalize(zD d.p).2=A;obtain⟨k,hW3⟩:∃k,k=b.alloc (.cells #[.int .i64 0,.int .i64 A] 35):=⟨_,rfl⟩;obtain⟨c0,c1,c2,c3,c4,c5,c6⟩:=(HA.out.step L).cs;have b7:s<b.heap.size:=zog b _ c0;have b3:Below F.heap.size F k:=by rw[hW3];exact ze L
 have B:=hid (HA.out.step b3);have D:=hid (zh HB.out b3);have Z:Hid (k.heap[f]?=some (.cells #[.int .i64 0,.int .i64 0] 35 (0,0))):=(b3.block f HA.out.fl).trans a4.out;have K:=hid hW3;clear L b3 HA HB a4 hW3;have b6:k.heap.size=b.heap.size+1:=by rw[K.out];simp
 obtain⟨J,hW4⟩:∃J,J=((k.alloc (.cells #[.int .u8 83,.int .u8 89,.int .u8 1] 5 (3,4))).alloc (.cells #[.slice (some ⟨k.heap.size,0,none⟩) 3 3] 70)):=⟨_,rfl⟩;obtain⟨p,hp⟩:∃p,p=k.heap.size+1:=⟨_,rfl⟩;have S:Hid (Wr k.heap.size p [83,89,1] J):=by rw[hW4,hp];exact zuY
 have b4:Below k.heap.size k J:=by rw[hW4];exact ze (ze (zof _ _))
 have i:=hid (B.out.step b4);have a2:Hid (J.heap[f]?=some (.cells #[.int .i64 0,.int .i64 0] 35 (0,0))):=(b4.block f B.out.fl).trans Z.out;have b1:=hid (zuE k p [83,89,1] d J S.out b4 (HL.out.step D.out) a9.out HN.out);have a7:=hid (zh D.out b4);have O:p≠f:=by have:=B.out.fl;omega
 have j:Hid (w.heap.size<=k.heap.size):=D.out.size;rw[K.out]at hW4;have C:Hid (((b.alloc (.cells #[.int .i64 0,.int .i64 A] 35)).alloc (.cells #[.int .u8 83,.int .u8 89,.int .u8 1] 5 (3,4))).alloc (.cells #[.slice (some ⟨b.heap.size+1,0,none⟩) 3 3] 70)=J):=by
  show _=_;rw[hW4];simp
 have EP:Hid (b.heap.size+1+1=p):=by show _=_;omega
 have b5:(convert 30 30 (.slice (some ⟨b.heap.size+1,0,none⟩) 3 3)).run Tryz.prog ((b.alloc (.cells #[.int .i64 0,.int .i64 A] 35)).alloc (.cells #[.int .u8 83,.int .u8 89,.int .u8 1] 5))=.ok (.slice (some ⟨b.heap.size+1,0,none⟩) 3 3) ((b.alloc (.cells #[.int .i64 0,.int .i64 A] 35)).alloc (.cells #[.int .u8 83,.int .u8 89,.int .u8 1] 5 (3,4))):=by
  have:=Lib.run_convert_bytes_const (P:=Tryz.prog) (b.alloc (.cells #[.int .i64 0,.int .i64 A] 35)) 30 5 #[.int .u8 83,.int .u8 89,.int .u8 1] 3 3 Tryz.underlying30 Tryz.underlying5;simpa using this
 have m0:(((b.alloc (.cells #[.int .i64 0,.int .i64 A] 35)).alloc (.cells #[.int .u8 83,.int .u8 89,.int .u8 1] 5 (3,4))).alloc (.cells #[.slice (some ⟨b.heap.size+1,0,none⟩) 3 3] 70)).cell? ⟨s,0,none⟩=some (.slice d.heads.a d.heads.n d.heads.c):=by rw[C.out];exact i.out.cs.1
 have m1:(((b.alloc (.cells #[.int .i64 0,.int .i64 A] 35)).alloc (.cells #[.int .u8 83,.int .u8 89,.int .u8 1] 5 (3,4))).alloc (.cells #[.slice (some ⟨b.heap.size+1,0,none⟩) 3 3] 70)).cell? ⟨s,1,none⟩=some (.slice d.mta.a d.mta.n d.mta.c):=by rw[C.out];exact i.out.cs.2.1
 have m2:(((b.alloc (.cells #[.int .i64 0,.int .i64 A] 35)).alloc (.cells #[.int .u8 83,.int .u8 89,.int .u8 1] 5 (3,4))).alloc (.cells #[.slice (some ⟨b.heap.size+1,0,none⟩) 3 3] 70)).cell? ⟨s,2,none⟩=some (.slice d.states.a d.states.n d.states.c):=by rw[C.out];exact i.out.cs.2.2.1
 have m3:(((b.alloc (.cells #[.int .i64 0,.int .i64 A] 35)).alloc (.cells #[.int .u8 83,.int .u8 89,.int .u8 1] 5 (3,4))).alloc (.cells #[.slice (some ⟨b.heap.size+1,0,none⟩) 3 3] 70)).cell? ⟨s,3,none⟩=some (.slice d.acts.a d.acts.n d.acts.c):=by rw[C.out];exact i.out.cs.2.2.2.1
 have m4:(((b.alloc (.cells #[.int .i64 0,.int .i64 A] 35)).alloc (.cells #[.int .u8 83,.int .u8 89,.int .u8 1] 5 (3,4))).alloc (.cells #[.slice (some ⟨b.heap.size+1,0,none⟩) 3 3] 70)).cell? ⟨s,4,none⟩=some (.slice d.tabs.a d.tabs.n d.tabs.c):=by rw[C.out];exact i.out.cs.2.2.2.2.1
 have m5:(((b.alloc (.cells #[.int .i64 0,.int .i64 A] 35)).alloc (.cells #[.int .u8 83,.int .u8 89,.int .u8 1] 5 (3,4))).alloc (.cells #[.slice (some ⟨b.heap.size+1,0,none⟩) 3 3] 70)).cell? ⟨s,5,none⟩=some (.slice d.nodes.a d.nodes.n d.nodes.c):=by rw[C.out];exact i.out.cs.2.2.2.2.2.1
 have m6:(((b.alloc (.cells #[.int .i64 0,.int .i64 A] 35)).alloc (.cells #[.int .u8 83,.int .u8 89,.int .u8 1] 5 (3,4))).alloc (.cells #[.slice (some ⟨b.heap.size+1,0,none⟩) 3 3] 70)).cell? ⟨s,6,none⟩=some (.slice d.out.a d.out.n d.out.c):=by rw[C.out];exact i.out.cs.2.2.2.2.2.2
 clear hW4 hp b4 B D Z K S c0 c1 c2 c3 c4 c5 c6;go_wp2_with fail
 rw[C.out,EP.out];refine b1.out.mono ?_;rintro e t ⟨rfl,h5,Y,a1⟩;clear b5 C EP b1 m0 m1 m2 m3 m4 m5 m6 b7 b6;have U:=hid (a7.out.trans (Y.mono j.out));have H:Hid (t.heap[f]?=some (.cells #[.int .i64 0,.int .i64 0] 35 (0,0))):=a1.2 f _ _ _ (Ne.symm O) (by decide) a2.out
 have o:=hid h5;have I:Hid (w.heap.size<=f):=i.out.wf;have E:Hid (k.heap.size<=t.heap.size):=h5.bl;clear a1 h5 Y a7 a2 i;obtain⟨a,c,k1,k2,k3,_⟩:=o.out.at;obtain⟨N,hN⟩:∃N,N=([83,89,1]++zpK d).length:=⟨_,rfl⟩;have W:Hid (Has .u8 t a ([83,89,1]++zpK d).length ([83,89,1]++zpK d)):=by
  obtain⟨a',c',h1,Q⟩:=o.out.ex;have:t.cell? ⟨p,0,none⟩=some (.slice a' ([83,89,1]++zpK d).length c'):=by simp[World.cell?,h1]
  rw[k1]at this;simp only[zoo,zox,true_and]at this;obtain⟨rfl,rfl⟩:=this;exact Q.has o.out.byt
 have M:Hid (∀w',Below t.heap.size t w'->Calls Tryz.prog 20 #[.slice a ([83,89,1]++zpK d).length c] w' (zqU w' ([83,89,1]++zpK d))):=fun w' h=>zqC a _ c _ w' (by have:=HN.out;unfold zpo at this;omega) (W.out.step h)
 have x:Hid (∀w' ad c4,Below t.heap.size t w'->Has .u8 w' ad 4 (Mth.four (Mth.crc (zpo d)))->∃g cap m,(Builtin.append_ #[30,30] 30 #[.slice a ([83,89,1]++zpK d).length c,.slice ad 4 c4]).run Tryz.prog w'=.ok (.slice (some ⟨g,0,none⟩) (([83,89,1]++zpK d).length+4) cap) m/\m.cell? ⟨f,0,none⟩=some (.int .i64 0)/\m.cell? ⟨f,1,none⟩=some (.int .i64 0)/\m.frozen? ⟨f,0,none⟩=false/\m.frozen? ⟨f,1,none⟩=false/\zpY d w (.returned (.tuple #[.slice (some ⟨g,0,none⟩) (([83,89,1]++zpK d).length+4) cap,.agg #[.int .i64 0,.int .i64 0]])) ((m.setCell ⟨f,0,none⟩ (.int .i64 0)).setCell ⟨f,1,none⟩ (.int .i64 0))):=fun w' ad c4 h hz=>by
  obtain⟨g,cap,m,b0,ho,u,b2⟩:=(o.out.step h).push4 (za k1 h) (c4:=c4) hz HN.out (zoz E.out h.size);have q:m.heap[f]?=some (.cells #[.int .i64 0,.int .i64 0] 35 (0,0)):=b2.2 f _ _ _ (Ne.symm O) (by decide) ((h.block f (zoj.1 H.out).1).trans H.out)
  have a8:g≠f:=fun e=>by
   rcases ho.2 with⟨G,_⟩|⟨g2,c2,a5,G,_,hh,_⟩
   ·cases G
   ·simp only[zox,zoo,Addr.mk.injEq,and_true]at G;rw[<-G.1,e,q]at hh;simp only[zoo,Obj.cells.injEq]at hh;exact absurd hh.2.1 (by decide)
  refine⟨g,cap,m,b0,by simp[World.cell?,q],by simp[World.cell?,q],by simp[World.frozen?,q],by simp[World.frozen?,q],HE.out g cap _ ?_ ?_⟩
  ·have h1:=ownsRow_setCell_other ho (a:=⟨f,0,none⟩) (by simp[Value.ownBlock];exact a8) (.int .i64 0)
   have Q:=ownsRow_setCell_other h1 (a:=⟨f,1,none⟩) (by simp[Value.ownBlock];exact a8) (.int .i64 0)
   exact⟨Q.1,by
    rcases Q.2 with⟨G,_⟩|⟨g2,c2,a5,G,b8,r⟩
    ·cases G
    ·exact .inr ⟨g2,c2,a5,G,zoz j.out b8,r⟩⟩
  ·exact((((zh U.out h).trans (u.mono j.out)).setCell (p:=⟨f,0,none⟩) I.out _).setCell (p:=⟨f,1,none⟩) I.out _)
 have y:Below t.heap.size t t.drew:=(zof _ _).drew;rw[<-hN]at k1 M x;clear HE HL a9 HN U H o W I E j O hN k2 k3;unfold zpo at x;go_wp2_with fail
 go_region_law (first
  |(go_simp;go_at_call 20;refine(M.out _ y).mono ?_;rintro e m ⟨a6,c6,rfl,T,u⟩;obtain⟨g7,X,w7,l,y0,y1,z0,z1,a0⟩:=x.out m a6 c6 (zh y u) T;have k6:=za k1 (zh y u);have HX:=hid a0;clear T u a0)
  |(refine zac rfl _ _ rfl (by simp[Act.eval]) (by simp[Act.eval]) l ?_))
 all_goals
  clear x M y l;go_wp2;exact bodyPost_ret (v:=.tuple #[.slice (some ⟨g7,0,none⟩) (N+4) X,.agg #[.int .i64 0,.int .i64 0]]) (by simp[results,Tryz.results7,go_sem, *]) rfl HX.out
theorem zsc(d:PlanD)(w:World)(a:d.lie w)(hs:d.small)(c:d.wfew)(e:(zpo d).length<=9000000):Calls Tryz.prog 7 #[d.v] w (zpY d w):=by
 by_cases b:(zD d.p).1=0
 ·exact zrT d w a hs c e b
 ·exact zsz d w a hs b
end Go.Proofs.YtbmcgbmegcpgnaaGreat
