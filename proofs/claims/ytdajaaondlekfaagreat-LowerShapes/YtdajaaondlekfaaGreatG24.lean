import Derived.Test.YtdajaaondlekfaaGreatG23
import Derived.Test.YtdajaaondlekfaaGreatVFGo
import Derived.StillTailTactics
import Derived.Test.YtdajaaondlekfaaGreatG22
import Derived.Laws.CopyRow
set_option maxHeartbeats 16000000
set_option maxRecDepth 20000
set_option linter.unusedSimpArgs false
namespace Go.Proofs.YtdajaaondlekfaaGreat
open Go.RowKit
abbrev AS:=List InsD × List Int
def zfN(M:MkrD)(st:AS)(h:Int):AS:=
 (st.1++(jB 0 (M.L.tl.getD h.toNat 0)::(zb0 0 (st.2.length:Int)++kO M.L h.toNat (M.d.hs.getD h.toNat HeadD.z).ws (M.d.hs.getD h.toNat HeadD.z).w.n)),jm (st.2++[-1]) (st.2.length:Int) (st.1++(jB 0 (M.L.tl.getD h.toNat 0)::(zb0 0 (st.2.length:Int)++kO M.L h.toNat (M.d.hs.getD h.toNat HeadD.z).ws (M.d.hs.getD h.toNat HeadD.z).w.n))).length)
def kh(M:MkrD)(st:AS)(i:Nat):AS:=(M.d.os.take i).foldl (zfN M) st
theorem zdq{M:MkrD}{st:AS}{i:Nat}{h:Int}(hi:M.d.os[i]?=some h):kh M st (i+1)=zfN M (kh M st i) h:=by
 unfold kh;rw[zoI,hi,List.foldl_append];rfl
theorem zdr(ms:List Int)(l:Int)(n:Nat):(jm ms l n).length=ms.length:=by
 unfold jm;split
 ·rw[List.length_set]
 ·rfl
def zmk(M:MkrD):Prop:=∀h∈M.d.os,∃hd:Nat,h=(hd:Int)/\zcI M hd (M.d.hs.getD hd HeadD.z)
theorem zhT(L:LayD)(hd:Nat)(ws:List Int)(n:Nat)(h:n<=8):(kO L hd ws n).length<=65:=by
 have:=qX (F:=fun i a b=>kX L hd i a b) (ws:=ws) (fun _ _ _=>zcz _ _ _ _ _) n
 simp only[kO,List.length_cons];omega
theorem zcC{M:MkrD}(a:zmk M)(st:AS):∀i,(kh M st i).1.length<=st.1.length+70*i/\(kh M st i).2.length<=st.2.length+i:=by
 intro i;induction i with
 |zero=>simp[kh]
 |succ i ih=>
  cases h:M.d.os[i]? with
  |none=>
   have:kh M st (i+1)=kh M st i:=by
    unfold kh;rw[zoI,h];simp
   rw[this];omega
  |some x=>
   rw[zdq h];obtain⟨hd,rfl,ok⟩:=a x (zol h);have:=zhT M.L hd (M.d.hs.getD hd HeadD.z).ws (M.d.hs.getD hd HeadD.z).w.n ok.ok.2.1;simp only[zfN,zov,zor,List.length_cons,List.length_nil,zdr];omega
def zfO(M:MkrD)(st:AS):AS:=((st.1++[⟨15,7,0,0,0,0⟩,jB 0 M.L.port,⟨16,0,0,0,0,0⟩])++[⟨17,0,0,0,0,0⟩],jm st.2 M.nw (st.1++[⟨15,7,0,0,0,0⟩,jB 0 M.L.port,⟨16,0,0,0,0,0⟩]).length)
theorem znZ{m:World}{B:Nat}{cs:List InsD}{ms:List Int}{w:World}{M:MkrD}(s:MkrAt M m)(h:St m B M.pa cs ms w)(d8:M.nl.length=M.d.nodes.n+1)(hO:zmk M)(f5:M.d.out.n<=100)(c8:0<=M.L.port/\M.L.port<1000)(Z:ms.length<=1000)(u:cs.length+10000<=90000):
 Calls Tryz.prog 46 #[M.v] w (Em m B M.pa w (.tuple #[]) (zfO M (kh M (cs,jm ms (M.nl.getD M.d.nodes.n 0) cs.length) M.d.os.length)).1 (zfO M (kh M (cs,jm ms (M.nl.getD M.d.nodes.n 0) cs.length) M.d.os.length)).2):=by
 obtain⟨q,hnn⟩:∃q,q=M.d.nodes.n:=⟨_,rfl⟩;have HM:=hid s;have K:=hid (fun w' (u:Cov m w')=>s.c7 u)
 have H5:=hid (fun w' (u:Cov m w')=>(s.cov u).box.c5)
 have H6:=hid (fun w' (u:Cov m w')=>(s.cov u).box.c6)
 have d0:=hid (fun w' (u:Cov m w')=>(s.cov u).box.c11)
 have b5:=hid (fun w' (u:Cov m w')=>(s.cov u).box.c17)
 have e6:q<M.nd.n:=by rw[<-s.nd.1];omega
 obtain⟨sg,so,d4,_,c1⟩:=s.nd.some (by omega)
 have c0:Hid (∀w',Cov m w'->w'.cell? ⟨M.mb,16,none⟩=some (.slice (some ⟨sg,so,none⟩) M.nd.n M.nd.c)):=fun w' c=>by rw[<-d4];exact(s.cov c).box.c16
 have d7:Hid (∀w',Cov m w'->w'.cell? ⟨sg,so+q,none⟩=some (.int .i64 (M.nl.getD q 0))):=fun w' c=>c.2 _ _ _ (c1 q e6)
 have e9:(q:Int)<(M.nd.n:Int):=by omega
 have U:=hid (fun w' (b:Below w.heap.size w w')=>zbc (h.step b) (M.nl.getD q 0))
 have c7:=K.out w h.cov;have c16:=c0.out w h.cov;have c5:=H5.out w h.cov;have d5:=d7.out w h.cov;have j:=zog _ _ c7;have e7:=zog _ _ d5;have B0:=hid (zof w.heap.size w);have e0:=hid h.lo;have HO:=hid hO;have HC:=hid u;have f3:=hid Z;have d9:=hid c8;have e3:Hid (∀w',Cov m w'->Has .i64 w' M.d.out.a M.d.out.n M.d.os):=fun w' c=>(s.cov c).pl.os
 have a2:Hid (M.d.os.length=M.d.out.n):=s.pl.os.1;have b9:=hid s.lay.th;rw[<-hnn]at c5;have H5:Hid (∀w',Cov m w'->w'.cell? ⟨M.mb,5,none⟩=some (.slice M.d.nodes.a q M.d.nodes.c)):=by
  rw[<-hnn]at H5;exact H5
 rw[<-hnn];obtain⟨ST,hST⟩:∃st:AS,st=(cs,jm ms (M.nl.getD q 0) cs.length):=⟨_,rfl⟩;rw[<-hST];have f2:=hid hST;obtain⟨X,hX⟩:∃X,X=(zfO M (kh M ST M.d.os.length)).1:=⟨_,rfl⟩;obtain⟨Y,hY⟩:∃Y,Y=(zfO M (kh M ST M.d.os.length)).2:=⟨_,rfl⟩;rw[<-hX,<-hY];have HX:=hid hX;have HY:=hid hY;have y:ST.1.length+10000<=90000/\ST.2.length<=1000:=by rw[hST];exact⟨u,by rw[zdr];exact Z⟩
 have P:=hid y;have E1:Hid (cs=ST.1):=by show _=_;rw[hST]
 have E2:Hid (jm ms (M.nl.getD q 0) cs.length=ST.2):=by show _=_;rw[hST]
 rw[E2.out,E1.out]at U;clear hX hY hST y s h d8 hO c8 Z u c1 hnn d4;generalize M.nl.getD q 0=lab at*;dsimp only[MkrD.v]at*;go_enter Tryz.func46,Tryz.ntmps46
 go_wp2_with fail
 go_region_held3 (fun w'=>w'.cell? ⟨M.mb,7,none⟩=some (.pointer (some ⟨M.pa,0,none⟩))/\w'.cell? ⟨M.mb,16,none⟩=some (.slice (some ⟨sg,so,none⟩) M.nd.n M.nd.c)/\w'.cell? ⟨M.mb,5,none⟩=some (.slice M.d.nodes.a q M.d.nodes.c)/\w'.cell? ⟨sg,so+q,none⟩=some (.int .i64 lab)) (first|exact⟨r,a4,k5,ks⟩|go_keep) (first
  |(go_at_call 72;refine(U.out _ B0.out.drew).mono ?_;rintro e w3 ⟨rfl,f⟩;have r:=K.out w3 f.1.cov;have a4:=c0.out w3 f.1.cov;have k5:=H5.out w3 f.1.cov;have ks:=d7.out w3 f.1.cov))
 have a6:=hid ((B0.out.drew.mono e0.out).trans f.2);have d3:=hid f.1;have c6:=H6.out w3 f.1.cov;have f0:=zog _ _ c6;clear U f c7 c16 c5 d5 r a4 k5 ks e7 j B0;go_wp2;go_loopw [28,3,4] (fun k _ _ wr=>∃i:Nat,i<=M.d.out.n/\k=.int .i64 i/\Hid (St m B M.pa (kh M ST i).1 (kh M ST i).2 wr/\Below B w wr)) (fun k _ _ _=>M.d.out.n-(intOf k).toNat)
 case atStart=>exact⟨0,zon _,rfl,d3.out,a6.out⟩
 case round=>
  obtain⟨i,hi,rfl,J⟩:=hrel;by_cases c3:i<M.d.out.n
  ·have e4:(i:Int)<(M.d.out.n:Int):=by omega
   obtain⟨g,off,ea,hg,F⟩:=(e3.out wr J.out.1.cov).some (by omega)
   have N:M.d.os[i]?=some (M.d.os.getD i 0):=by
    rw[zoi,zoh (by rw[a2.out];exact c3)]
    rfl
   obtain⟨hd,a1,ok⟩:=HO.out _ (zol N);have cz:=F i c3;rw[a1]at N cz;have a7:=zdq (st:=ST) N;have W:=zcC HO.out ST i;have y:=P.out;have c7:=K.out wr J.out.1.cov;have j:=zog _ _ c7;have t:(kh M ST i).1.length+100<=100000:=by omega
   have b7:(kh M ST i).2.length<=2000:=by omega
   have a5:=hid a7;have e5:=hid ok;have o:=hid J.out.1;have E:=hid J.out.2;have D:=hid t;have R:=hid (zcA J.out.1 (by omega))
   have a3:hd<M.L.th.n:=by rw[<-b9.out.1];exact ok.there
   obtain⟨tg,H,b8,_,b2⟩:=b9.out.some (by omega)
   have H9:Hid (∀w',Cov m w'->w'.cell? ⟨M.mb,9,none⟩=some (.slice (some ⟨tg,H,none⟩) M.L.th.n M.L.th.c)):=fun w' c=>by rw[<-b8];exact(HM.out.cov c).box.c9
   have b1:Hid (∀w',Cov m w'->w'.cell? ⟨tg,H+hd,none⟩=some (.int .i64 (M.L.tl.getD hd 0))):=fun w' c=>c.2 _ _ _ (b2 hd a3)
   have e8:(hd:Int)<(M.L.th.n:Int):=by omega
   have hz:=zbe ok.tn;have HZ:=hid hz;rw[ea];have EA:=hid ea;have f4:Hid ((kh M ST i).2.length<=2000):=b7;clear F N a1 ok a7 W y J t b8 b2 ea hz a3;generalize d1:(kh M ST i).1=C0 at*;generalize b3:(kh M ST i).2=M0 at*;have S:=hid d1;have a0:=hid b3;clear d1 b3;generalize a9:M.L.tl.getD hd 0=tv at*;have c4:=hid a9;clear a9;obtain⟨l,hl⟩:∃l:Nat,l=M0.length:=⟨_,rfl⟩;rw[<-hl]at R;have EL:=hid hl;have f1:l<=2000:=by omega
   clear hl b7;go_wp2_with fail
   refine R.out.mono ?_;rintro e w4 ⟨rfl,f⟩;have a8:=hid (E.out.trans f.2);have c7:=K.out w4 f.1.cov;have j:=zog _ _ c7;have c9:=H9.out w4 f.1.cov;have ct:=b1.out w4 f.1.cov;have d6:=zog _ _ ct;have O:=hid (xy f.1 [jB 0 tv] #[.int .i64 7,.int .i64 0,.int .i64 0,.int .i64 0,.int .i64 0,.int .u64 tv] rfl 1 rfl (xq (wfG wf0 HZ.out.1)) (by decide) (by have:=D.out;omega) 126)
   have HG:=hid (fun w'=>zmY 0 tv w' HZ.out.2)
   have B0:=hid (zof w4.heap.size w4);clear R f E o cz;go_wp2_with fail
   go_region_held3 (fun w'=>w'.cell? ⟨M.mb,7,none⟩=some (.pointer (some ⟨M.pa,0,none⟩))/\w'.cell? ⟨M.mb,9,none⟩=some (.slice (some ⟨tg,H,none⟩) M.L.th.n M.L.th.c)/\w'.cell? ⟨tg,H+hd,none⟩=some (.int .i64 tv)) (first|exact⟨r,k9,kt⟩|exact⟨za c7 (ze B0.out).drew,za c9 (ze B0.out).drew,za ct (ze B0.out).drew⟩|exact⟨za c7 (ze (ze B0.out)).drew,za c9 (ze (ze B0.out)).drew,za ct (ze (ze B0.out)).drew⟩|go_keep) (first
    |(go_at_call 82;refine(HG.out _).mono ?_;rintro e w5 ⟨o1,rfl,rfl⟩)
    |(go_at_call 42;refine(O.out _ _ (by simp) (ze B0.out)).mono ?_;rintro e C ⟨rfl,f⟩;have r:=K.out C f.1.cov;have k9:=H9.out C f.1.cov;have kt:=b1.out C f.1.cov))
   have G:=hid (a8.out.trans f.2);have V:=hid (znw HM.out f.1 0 (l:Int) (by decide) (zbF l (by omega)) (by have:=D.out;simp only[zor,List.length_cons,List.length_nil];omega))
   dsimp only[MkrD.v]at V;clear O HG f a8 B0 c7 c9 ct r k9 kt d6 j;go_wp2_with fail
   refine V.out.mono ?_;rintro e w7 ⟨rfl,f⟩;have I:=hid (G.out.trans f.2);have T:=hid (zm0 HM.out f.1 hd _ e5.out (by have:=D.out;have:=P.out;have:=zcC HO.out ST i;rw[S.out]at this;simp only[zb0,zor,List.length_cons,List.length_nil];omega))
   dsimp only[MkrD.v]at T;clear V f G;go_wp2_with fail
   refine T.out.mono ?_;rintro e w8 ⟨rfl,f⟩;have d2:=hid (I.out.trans f.2);have c7:=K.out w8 f.1.cov;have j:=zog _ _ c7;have A:=hid (zbc f.1 (l:Int));clear T f I;go_wp2_with fail
   refine A.out.mono ?_;rintro e w9 ⟨rfl,f⟩;have NX:Hid (St m B M.pa (kh M ST (i+1)).1 (kh M ST (i+1)).2 w9/\Below B w w9):=by
    refine⟨?_,d2.out.trans f.2⟩;have hs:=f.1;have e1:(kh M ST (i+1)).1=((C0++[jB 0 tv])++zb0 0 (l:Int))++kO M.L hd (M.d.hs.getD hd HeadD.z).ws (M.d.hs.getD hd HeadD.z).w.n:=by
     rw[a5.out,EL.out];simp only[zfN,S.out,a0.out,zov,List.append_assoc,List.cons_append,List.nil_append];rw[c4.out]
    have e2:(kh M ST (i+1)).2=jm (M0++[-1]) (l:Int) (((C0++[jB 0 tv])++zb0 0 (l:Int))++kO M.L hd (M.d.hs.getD hd HeadD.z).ws (M.d.hs.getD hd HeadD.z).w.n).length:=by
     rw[a5.out,EL.out];simp only[zfN,S.out,a0.out,zov,List.append_assoc,List.cons_append,List.nil_append];rw[c4.out]
    rw[e1,e2];exact hs
   clear A f d2 c7 j;go_wp2;go_roundw
   case rel=>exact⟨i+1,by omega,by go_num,NX.out⟩
   case measure=>simp[intOf];omega
  ·have e4:¬(i:Int)<(M.d.out.n:Int):=by omega
   have c2:i=M.d.os.length:=by have:=a2.out;omega
   have o:=J.out.1;have E:=hid J.out.2;have W:=zcC HO.out ST i;have y:=P.out;have t:(kh M ST i).1.length+100<=100000:=by omega
   rw[c2]at o t;clear J W y d3 a6 c2;generalize kh M ST M.d.os.length=Q at*;have c7:=K.out wr o.cov;have c11:=d0.out wr o.cov;have j:=zog _ _ c7;have hz:=zbe d9.out;have O:=hid (xy o [⟨15,7,0,0,0,0⟩,jB 0 M.L.port,⟨16,0,0,0,0,0⟩] #[.int .i64 15,.int .i64 7,.int .i64 0,.int .i64 0,.int .i64 0,.int .u64 0,.int .i64 7,.int .i64 0,.int .i64 0,.int .i64 0,.int .i64 0,.int .u64 M.L.port,.int .i64 16,.int .i64 0,.int .i64 0,.int .i64 0,.int .i64 0,.int .u64 0] rfl 3 rfl (by
    intro x hx;simp only[zoD,zoA,or_false]at hx;rcases hx with rfl|rfl|rfl
    ·exact⟨(by decide:yt 15),(by decide:yt 7),wf0,wf0,wf0,(by decide:kM 0)⟩
    ·exact wfG wf0 hz.1
    ·exact⟨(by decide:yt 16),wf0,wf0,wf0,wf0,(by decide:kM 0)⟩) (by decide) (by omega) 126)
   have HG:=hid (fun w'=>zmY 0 M.L.port w' hz.2)
   have B0:=hid (zof wr.heap.size wr);have D:=hid t;clear o hz t;go_wp2_with fail
   go_region_held3 (fun w'=>w'.cell? ⟨M.mb,7,none⟩=some (.pointer (some ⟨M.pa,0,none⟩))/\w'.cell? ⟨M.mb,11,none⟩=some (.int .i64 M.L.port)) (first|exact⟨r,b6⟩|exact⟨za c7 (ze B0.out).drew,za c11 (ze B0.out).drew⟩|exact⟨za c7 (ze (ze B0.out)).drew,za c11 (ze (ze B0.out)).drew⟩|go_keep) (first
    |(go_at_call 82;refine(HG.out _).mono ?_;rintro e w5 ⟨o1,rfl,rfl⟩)
    |(go_at_call 42;refine(O.out _ _ (by simp) (ze B0.out)).mono ?_;rintro e C ⟨rfl,f⟩;have r:=K.out C f.1.cov;have b6:=d0.out C f.1.cov))
   have G:=hid (E.out.trans f.2);have c7:=r;have c17:=b5.out C f.1.cov;have j:=zog _ _ c7;have A:=hid (fun w' (b:Below C.heap.size C w')=>zbc (f.1.step b) M.nw)
   have B0:=hid (zof C.heap.size C);have b4:=hid f.1.lo;clear O HG f E r b6 c11;go_wp2_with fail
   go_region_held3 (fun w'=>w'.cell? ⟨M.mb,7,none⟩=some (.pointer (some ⟨M.pa,0,none⟩))/\w'.cell? ⟨M.mb,17,none⟩=some (.int .i64 M.nw)) (first|exact⟨r,b0⟩|go_keep) (first
    |(go_at_call 72;refine(A.out _ B0.out.drew).mono ?_;rintro e w7 ⟨rfl,f⟩;have r:=K.out w7 f.1.cov;have b0:=b5.out w7 f.1.cov))
   have I:=hid ((G.out.trans (B0.out.drew.mono b4.out)).trans f.2);have c7:=r;have j:=zog _ _ c7;have O:=hid (qU f.1 [⟨17,0,0,0,0,0⟩] #[.int .i64 17,.int .i64 0,.int .i64 0,.int .i64 0,.int .i64 0,.int .u64 0] rfl 1 rfl (xq ⟨(by decide:yt 17),wf0,wf0,wf0,wf0,(by decide:kM 0)⟩) (by decide) (by have:=D.out;simp only[zor,List.length_cons,List.length_nil];omega) 126)
   have B0:=hid (zof w7.heap.size w7);clear A f G r b0 c17;go_wp2_with fail
   refine(O.out _ _ (by simp) B0.out).mono ?_
   rintro e w8 ⟨rfl,f⟩;have f:=hid f;clear O;go_wp2;refine bodyPost_ret (v:=.tuple #[]) (by simp[results,Tryz.results46,go_sem]) rfl ⟨rfl,?_,I.out.trans f.out.2⟩
   rw[HX.out,HY.out];exact f.out.1
def zjk(g:Nat)(p:PPlan)(st k:Nat)(w:World)(e:Ending)(w':World):Prop:=∃ok:Bool,e=.returned (.bool ok)/\But g w w'/\(ok=true->¬jD p st k/\AhU g (xG p st (k+1)) w')/\(ok=false->jD p st k)
@[reducible] def zli(d:PlanD)(g m:Nat):Array Value:= #[.slice d.heads.a d.heads.n d.heads.c,.slice d.mta.a d.mta.n d.mta.c,.slice d.states.a d.states.n d.states.c,.slice d.acts.a d.acts.n d.acts.c,.slice d.tabs.a d.tabs.n d.tabs.c,.slice d.nodes.a d.nodes.n d.nodes.c,.slice d.out.a d.out.n d.out.c,.slice (some ⟨g,0,none⟩) m m]
def WkF(d:PlanD)(g m b:Nat)(w:World):Prop:=∀i v,(zli d g m)[i]?=some v->w.cell? ⟨b,i,none⟩=some v
theorem WkF.but{d:PlanD}{g m b q:Nat}{w w':World}(h:WkF d g m b w)(hb:But q w w')(c:b≠q):WkF d g m b w':=fun i v a=>hb.cell c (h i v a)
theorem WkF.step{d:PlanD}{g m b:Nat}{w w':World}(h:WkF d g m b w)(hb:Below w.heap.size w w'):WkF d g m b w':=fun i v a=>za (h i v a) hb
theorem WkF.all{d:PlanD}{g m b:Nat}{w:World}(h:WkF d g m b w):
 w.cell? ⟨b,0,none⟩=some (.slice d.heads.a d.heads.n d.heads.c)/\w.cell? ⟨b,1,none⟩=some (.slice d.mta.a d.mta.n d.mta.c)/\w.cell? ⟨b,2,none⟩=some (.slice d.states.a d.states.n d.states.c)/\w.cell? ⟨b,3,none⟩=some (.slice d.acts.a d.acts.n d.acts.c)/\w.cell? ⟨b,4,none⟩=some (.slice d.tabs.a d.tabs.n d.tabs.c)/\w.cell? ⟨b,5,none⟩=some (.slice d.nodes.a d.nodes.n d.nodes.c)/\w.cell? ⟨b,6,none⟩=some (.slice d.out.a d.out.n d.out.c)/\w.cell? ⟨b,7,none⟩=some (.slice (some ⟨g,0,none⟩) m m):=
 ⟨h 0 _ rfl,h 1 _ rfl,h 2 _ rfl,h 3 _ rfl,h 4 _ rfl,h 5 _ rfl,h 6 _ rfl,h 7 _ rfl⟩
theorem zgP(d:PlanD)(g m:Nat)(w:World):WkF d g m w.heap.size (w.alloc (.cells (zli d g m) 156)):=fun _ _ h=>(zod _ _ _ _ rfl).trans h
theorem zew{p:PPlan}{st m:Nat}(b:st<2^64):∀a∈xG p st m,a<2^64:=by
 intro a ha;obtain⟨j,_,rfl⟩:=zoJ.1 ha;exact qR b m j
theorem zhz(d:PlanD)(st k:Nat){g m:Nat}{F w:World}(f:d.lie F)(y:Below F.heap.size F w)(D:F.heap.size<=g)(I:(zD d.p).1=0)(j:st<2^64)(ha:AhU g (xG d.p st k) w)(U:m=d.p.ns.length+1)(K:k<d.nodes.n):
 Calls Tryz.prog 69 #[zb5 d g m,.int .i64 (k:Int)] w (zjk g d.p st k w):=by
 have N:d.lie w:=f.step y;have en:d.p.ns.length=d.nodes.n:=by simp[PlanD.p,N.ns.1]
 obtain⟨ng,no,x,r,O,hp⟩:=zu N.ns K;have l:d.p.ns.getD k PNode.z=x.p:=by
  unfold PlanD.p;simp only[zoi,zoy,O,Option.map_some,zoC]
 have V:ng≠g:=by
  obtain⟨Q,_,_,H,_,J⟩:=zu f.ns K;have B:=zog _ _ J.1.1;rw[r]at H;simp only[zoo,Addr.mk.injEq]at H;have h2:Q<F.heap.size:=B;omega
 have P:zaH d.p k x.p:=by have:=za3 I (i:=k) (by omega);rwa[l]at this
 have t:(xG d.p st k)[k]?=some (SN d.p st k k):=za1 (by omega)
 have a:=qR (p:=d.p) j k k;obtain⟨s,hs⟩:∃s,s=SN d.p st k k:=⟨_,rfl⟩;rw[<-hs]at t a;obtain⟨q,hW⟩:∃q,q=w.alloc (.cells (zli d g m) 156):=⟨_,rfl⟩;obtain⟨b,hb⟩:∃b,b=w.heap.size:=⟨_,rfl⟩;have A:Below w.heap.size w q:=by rw[hW];exact ze (zof _ _)
 have E:WkF d g m b q:=by rw[hW,hb];exact zgP d g m w
 have c:=ha.step A;have S:=c.cs k s t;have X:∀o,(w.alloc o).cell? ⟨g,k,none⟩=some (.int .u64 (s:Int)):=fun o=>za (ha.cs k s t) (ze (zof _ _))
 have a1:=ha.lt;have a4:b≠g:=by omega
 have a0:(k:Int)<(m:Int):=by omega
 have a3:(0:Int)<=(k:Int):=by omega
 have a2:¬g=w.heap.size:=by omega
 have L:Hid (But g w q):=But.of A (Nat.le_of_lt ha.lt);have EW:=hid hW;have Z:=hid hb;by_cases B:s=zF
 ·have R:Hid (∀o,zjk g d.p st k w (.returned (.bool true)) (w.alloc o)):=fun o=>by
   refine⟨true,rfl,But.of (ze (zof _ _)) (Nat.le_of_lt ha.lt),fun _=>⟨fun h=>h.1 (hs.symm.trans B),?_⟩,fun h=>by cases h⟩
   rw[zeu j (hs.symm.trans B)];exact ha.step (ze (zof _ _))
  have he:((s:Int)==18446744073709551615)=true:=by rw[B];rfl
  clear N f y D I j ha U K en O hp l P t a hs hW hb A E c S B V r;go_enter Tryz.func69,Tryz.ntmps69
  go_wp2;go_ret;exact R.out _
 ·have he:((s:Int)==18446744073709551615)=false:=by
   rw[beq_eq_false_iff_ne];intro h;exact B (by unfold zF;omega)
  obtain⟨z0,z1,z2,z3,z4,z5,z6,z7⟩:=E.all;obtain⟨⟨t0,_⟩,⟨t1,_⟩,⟨t2,_⟩,⟨t3,_⟩,⟨t4,_⟩,_⟩:=hp;have u0:=za t0 A;have u1:=za t1 A;have u2:=za t2 A;have u3:=za t3 A;have u4:=za t4 A;have u:Below q.heap.size q q.drew:=(zof _ _).drew;have zd:q.drew.cell? ⟨g,k,none⟩=some (.int .u64 (s:Int)):=S;have C:Hid (Calls Tryz.prog 106 #[qS d g m x s] q.drew (je g (yB d.p s x.p) (xR d.p s x.p (xG d.p st k)) q.drew)):=by
   refine zhw d x s k f (zh y (zh A u)) D I (c.step u) U (by rw[jW];omega) (zew j) a P fun w' h=>?_
   have T:But g w w':=L.out.trans ((But.of u (Nat.le_of_lt c.lt)).trans h);have Y:d.lie w':=f.step (y.trans (T.low.mono D));obtain⟨_,_,x2,_,G,W⟩:=zu Y.ns K;obtain rfl:x=x2:=by rw[O]at G;exact zoq G
   exact W.2.2.2.2.2
  have M:Hid (∀w',je g (yB d.p s x.p) (xR d.p s x.p (xG d.p st k)) q.drew (.returned (.bool (yB d.p s x.p))) w'->zjk g d.p st k w (.returned (.bool (yB d.p s x.p))) w'):=fun w' h=>by
   refine⟨_,rfl,L.out.trans ((But.of u (Nat.le_of_lt c.lt)).trans h.2.1),fun e=>⟨?_,?_⟩,fun e=>?_⟩
   ·rintro⟨_,h2⟩;rw[l,<-hs,e]at h2;cases h2
   ·have:=zet I j (m:=k) (by omega) (by rw[<-hs];exact B)
    rw[l,<-hs]at this;rw[<-this];exact h.2.2 e
   ·exact⟨by rw[<-hs];exact B,by rw[l,<-hs];exact e⟩
  rw[r]at z5;unfold qS at C;rw[r]at C;have a5:(k:Int)<(d.nodes.n:Int):=by omega
  clear N f y D I j ha U K en O l P t a hs hW hb A E c B r t0 t1 t2 t3 t4 u;generalize xR d.p s x.p (xG d.p st k)=A1 at*;generalize yB d.p s x.p=KB at*;go_enter Tryz.func69,Tryz.ntmps69
  go_wp2_with fail
  rw[<-EW.out,<-Z.out];clear EW Z X;go_still_tail 13,(by kernel_rfl)
  show wpList _ _ _ _ _ q.drew;go_wp2_with fail
  refine C.out.mono ?_;rintro e w1 ⟨rfl,h2,h3⟩
  all_goals
   have R:=hid (M.out w1 ⟨rfl,h2,h3⟩);clear M C h2 h3 z0 z1 z2 z3 z4 z5 z6 z7 u0 u1 u2 u3 u4 zd S;go_wp2;go_ret;exact R.out
theorem zhD(m:Nat)(h:m<=11)(w:World):Calls Tryz.prog 149 #[.int .u64 1,.int .u64 (m:Int)] w fun e w'=>e=.returned (.tuple #[.int .u64 0,.int .u64 (m:Int)])/\w'=w:=by
 rcases(show m=0\/m=1\/m=2\/m=3\/m=4\/m=5\/m=6\/m=7\/m=8\/m=9\/m=10\/m=11 by omega)with rfl|rfl|rfl|rfl|rfl|rfl|rfl|rfl|rfl|rfl|rfl|rfl
 all_goals
  clear h;go_enter Tryz.func149,Tryz.ntmps149
  go_wp2;go_ret2
  exact⟨rfl,rfl⟩
theorem mul_one(m:Nat)(h:m<=11)(w:World):Calls Tryz.prog 105 #[.int .u64 1,.int .u64 (m:Int)] w fun e w'=>e=.returned (.tuple #[.int .u64 0,.int .u64 (m:Int)])/\w'=w:=by
 have a:=hid (zhD m h);clear h;go_enter Tryz.func105,Tryz.ntmps105
 go_wp2_with (go_at_call 149;refine(a.out _).mono ?_;rintro e w' ⟨rfl,rfl⟩)
 go_ret2
 exact⟨rfl,rfl⟩
theorem zhE(w:World)(o:Obj):(w.alloc o).heap[w.heap.size]?=some o:=by
 show(w.heap.push o)[w.heap.size]?=some o;simp
def RowU(w:World)(g:Nat)(a:List Value):Prop:=w.heap[g]?=some (.cells a.toArray 75 (0,0))
theorem RowU.cell{w:World}{g:Nat}{a:List Value}(h:RowU w g a)(j:Nat):w.cell? ⟨g,j,none⟩=a[j]?:=by
 unfold RowU at h;simp[World.cell?,h]
theorem Tryz.szU64:(Tryz.prog.info? 75).map (·.size)=some 1:=by kernel_rfl
theorem Tryz.infoU64:(Tryz.prog.info? 75).map (fun i=>(i.zero,i.size,i.bytes))=some (some (.int .u64 0),1,8):=by kernel_rfl
theorem zdk{w:World}{g:Nat}{d:List Value}(k:RowU w g d)(ty:TypeId)(o b e:Nat)(a:Addr)(c f:Nat)(cs:List Value)(m:cs.length=Nat.min c b)
 (h:∀j v,cs[j]?=some v->w.cell? (a.add j)=some v) (i:o+cs.length<=d.length) (l:∀v∈cs,v.oneCell'=true):
 (Builtin.copy_ #[32,32] ty #[.slice (some ⟨g,o,none⟩) b e,.slice (some a) c f]).run Tryz.prog w=.ok (goInt cs.length) (w.setRow g (d.take o++cs++d.drop (o+cs.length)).toArray):=by
 have:=run_copy_row (P:=Tryz.prog) w 32 32 ty 75 g o b e a c f d.toArray 75 cs Tryz.underlying32 Tryz.szU64 k m h (by simpa using i) l
 simpa using this
def jN(n m:Nat):List Value:=List.replicate n (.int .u64 18446744073709551615)++List.replicate (m-n) (.int .u64 0)
theorem zhF(n m c:Nat)(h:n+c<=m):(jN n m).take n++List.replicate c (.int .u64 18446744073709551615)++(jN n m).drop (n+c)=jN (n+c) m:=by
 unfold jN;rw[List.take_append_of_le_length (by simp),List.take_of_length_le (by simp),List.drop_append,List.drop_of_length_le (by simp),List.nil_append,List.drop_replicate,List.length_replicate,List.replicate_append_replicate]
 congr 2
 omega
theorem zjp(n m:Nat)(h:n<=m):(jN n m).length=m:=by unfold jN;simp;omega
theorem zgR(n m j:Nat)(h:j<n):(jN n m)[j]?=some (.int .u64 18446744073709551615):=by
 unfold jN;rw[zoL (by simpa using h),List.getElem?_replicate,if_pos h]
def za4(m:Nat)(w:World)(e:Ending)(w':World):Prop:=∃g,e=.returned (.slice (some ⟨g,0,none⟩) m m)/\w.heap.size<=g/\AhU g (List.replicate m zF) w'/\Below w.heap.size w w'
theorem zlj{m g:Nat}{w w':World}(hr:RowU w' g (jN m m))(a:w.heap.size<=g)(hb:Below w.heap.size w w'):za4 m w (.returned (.slice (some ⟨g,0,none⟩) m m)) w':=by
 refine⟨g,rfl,a,⟨fun i s hs=>?_,fun o=>?_,?_⟩,hb⟩
 ·rw[List.getElem?_replicate]at hs;by_cases h:i<m
  ·rw[if_pos h]at hs;cases hs
   rw[hr.cell,zgR m m i h];rfl
  ·rw[if_neg h]at hs;cases hs
 ·unfold RowU at hr;simp[World.frozen?,hr]
 ·exact(zoj.1 hr).1
theorem zaK(L m:Nat)(w:World)(hx:w.cell? ⟨L,0,none⟩=some (.int .u64 18446744073709551615))(h1:1<=m)(hm:m<=11):
 Calls Tryz.prog 67 #[.slice (some ⟨L,0,none⟩) 1 1,.int .i64 (m:Int)] w (za4 m w):=by
 obtain⟨i0,hi,D,H,y⟩:=info_parts Tryz.infoU64;have a0:∀W:World,(Instr.makeSlice 32 (.int .i64 (m:Int)) (.int .i64 (m:Int))).run Tryz.prog W=.ok (.slice (some ⟨W.heap.size,0,none⟩) m m) (W.alloc (.cells (Array.replicate m (.int .u64 0)) 75)):=fun W=>by
  have h:=run_make (P:=Tryz.prog) W 32 75 i0 _ Tryz.underlying32 hi D .i64 .i64 (m:Int) (m:Int) (by omega) (by omega) (by rw[y];omega) (by omega)
  rw[show((m:Int)).toNat=m by omega,H]at h
  have S:madeCells #[Value.int .u64 0] m=Array.replicate m (Value.int .u64 0):=Array.ext' (by rw[toList_madeCells_one];simp)
  rw[<-S];rw[Nat.mul_one]at h;exact h
 obtain⟨o,hW⟩:∃o,o=w.alloc (.cells (Array.replicate m (.int .u64 0)) 75):=⟨_,rfl⟩;obtain⟨g,hg⟩:∃g,g=w.heap.size:=⟨_,rfl⟩;have I:Below w.heap.size w o:=by rw[hW];exact ze (zof _ _)
 have M:RowU o g (List.replicate m (.int .u64 0)):=by
  unfold RowU;rw[hW,hg,zhE w _];simp
 have r:=zdk M 3 0 m m ⟨L,0,none⟩ 1 1 [.int .u64 18446744073709551615] (by simp[Nat.min_def];omega) (fun j v a=>by
  obtain rfl:j=0:=by
   have:=(zok.1 a).1;simpa using this
  simp only[List.getElem?_cons_zero,zoo]at a;subst a;exact za hx I) (by simp;omega) (by simp[Value.oneCell'])
 obtain⟨E,hW2⟩:∃E,E=o.setRow g (jN 1 m).toArray:=⟨_,rfl⟩;have e1:List.take 0 (List.replicate m (Value.int .u64 0))++[Value.int .u64 18446744073709551615]++List.drop (0+[Value.int .u64 18446744073709551615].length) (List.replicate m (Value.int .u64 0))=jN 1 m:=by
  simp[jN]
 rw[e1,<-hW2]at r;have i:(Builtin.copy_ #[32,32] 3 #[.slice (some ⟨g,0,none⟩) m m,.slice (some ⟨L,0,none⟩) 1 1]).run Tryz.prog o=.ok (.int .i64 1) E:=r;clear r;have R2:RowU E g (jN 1 m):=by rw[hW2];exact setRow_heap o g _ _ _ _ M
 have b2:Below w.heap.size w E:=by
  rw[hW2];exact I.grown ⟨rfl,rfl,rfl,by rw[setRow_size];exact zos _,fun k _ f=>setRow_other o g k _ (fun e=>f (by rw[e]))⟩ I.size (by intro k f;simp only[zoo]at f;omega)
 have G:=hid R2;have F:=hid b2;have B:Hid (w.heap.size<=g):=by show w.heap.size<=g;omega
 have A:=hid (mul_one m hm);have EW:=hid hW;have EG:=hid hg;have N:¬(m:Int)<0:=by omega
 have Y:IntKind.u64.wrap (m:Int)=(m:Int):=by simp[IntKind.wrap,IntKind.bits,IntKind.signed];omega
 have U:IntKind.i64.wrap (m:Int)=(m:Int):=zX _ (by omega) (by omega)
 have a3:¬(9223372036854775807:Int)<(m:Int):=by omega
 rw[hW,hg]at i;clear hi D H y hW hg I M e1 hW2 R2 b2 hx;go_enter Tryz.func67,Tryz.ntmps67
 go_wp2_with (go_at_call 105;refine(A.out _).mono ?_;rintro e w' ⟨rfl,rfl⟩)
 rw[<-EG.out];clear A a0 EW EG N Y U i;go_loopw [8] (fun q wr=>∃n:Nat,1<=n/\n<=m/\q=.int .i64 n/\Hid (RowU wr g (jN n m))/\Hid (Below w'.heap.size w' wr)) (fun q _=>m-(intOf q).toNat)
 case atStart=>exact⟨1,zos _,h1,rfl,G,F⟩
 case round=>
  obtain⟨n,X,hn,rfl,J,x⟩:=hrel;clear G F;by_cases a2:n<m
  ·obtain⟨k,f⟩:∃k,k=Nat.min n (m-n):=⟨_,rfl⟩;have t:n+k<=m:=by
    have:k<=m-n:=by rw[f];exact Nat.min_le_right _ _
    omega
   have a5:0<k:=by rw[f];exact Nat.lt_min.2 ⟨by omega,by omega⟩
   have K:RowU wr.drew g (jN n m):=J.out;have a6:(n:Int)<(m:Int):=by omega
   have a1:(n:Int)<=(m:Int):=by omega
   have a4:(0:Int)<=(n:Int):=by omega
   have a7:¬m=n:=by omega
   have a8:IntKind.i64.wrap ((n:Int)+(k:Int))=((n+k:Nat):Int):=by rw[zX _ (by omega) (by omega)];omega
   have s:(List.replicate k (Value.int .u64 18446744073709551615)).length=Nat.min n (m-n):=by rw[List.length_replicate,f]
   have V:=hid s;have c:∀j v,(List.replicate k (Value.int .u64 18446744073709551615))[j]?=some v->wr.drew.cell? ((⟨g,0,none⟩:Addr).add j)=some v:=fun j v a=>by
    rw[List.getElem?_replicate]at a;by_cases e:j<k
    ·rw[if_pos e]at a;cases a
     rw[Addr.add_lit,zoK,K.cell,zgR n m j (by
      have:k<=n:=by rw[f];exact Nat.min_le_left _ _
      omega)]
    ·rw[if_neg e]at a;cases a
   have Q:=hid c;have b:n+(List.replicate k (Value.int .u64 18446744073709551615)).length<=(jN n m).length:=by rw[List.length_replicate,zjp n m hn];exact t
   have R:=hid b;have l:∀v∈List.replicate k (Value.int .u64 18446744073709551615),v.oneCell'=true:=fun v hv=>by rw[(List.mem_replicate.1 hv).2];rfl
   have C:(jN n m).take n++List.replicate k (.int .u64 18446744073709551615)++(jN n m).drop (n+(List.replicate k (Value.int .u64 18446744073709551615)).length)=jN (n+k) m:=by rw[List.length_replicate];exact zhF n m k t
   have d:=zdk K 3 n (m-n) (m-n) ⟨g,0,none⟩ n m (List.replicate k (Value.int .u64 18446744073709551615)) s c b l;rw[C,List.length_replicate]at d;obtain⟨u,hW3⟩:∃u,u=wr.drew.setRow g (jN (n+k) m).toArray:=⟨_,rfl⟩;have T:Hid (RowU u g (jN (n+k) m)):=by rw[hW3];exact setRow_heap wr.drew g _ _ _ _ K
   have Z:Hid (Below w'.heap.size w' u):=by
    rw[hW3];exact(x.out.drew).grown ⟨rfl,rfl,rfl,by rw[setRow_size];exact zos _,fun j _ a=>setRow_other wr.drew g j _ (fun e=>a (by rw[e]))⟩ x.out.size (by intro j a;simp only[zoo]at a;have:=B.out;omega)
   rw[<-hW3]at d;have O:(Builtin.copy_ #[32,32] 3 #[.slice (some ⟨g,n,none⟩) (m-n) (m-n),.slice (some ⟨g,0,none⟩) n m]).run Tryz.prog wr.drew=.ok (.int .i64 (k:Int)) u:=d;clear f s c b J d C hW3 K l x V Q R;go_wp2_with fail
   go_region_held3 (fun _=>1<=n) (exact X) (fail)
   all_goals
    clear O;go_wp2;go_roundw
    case rel=>exact⟨n+k,by omega,t,by go_num,T,Z⟩
    case measure=>simp[intOf];omega
  ·have e:n=m:=by omega
   subst e;have HE:=hid (zlj J.out B.out x.out);clear J x;go_wp2;go_ret;exact HE.out
end Go.Proofs.YtdajaaondlekfaaGreat
