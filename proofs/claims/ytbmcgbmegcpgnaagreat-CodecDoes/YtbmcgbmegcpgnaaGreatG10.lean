import Derived.Test.YtbmcgbmegcpgnaaGreatG5
import Derived.Test.YtbmcgbmegcpgnaaGreatG9
import Derived.Test.YtbmcgbmegcpgnaaGreatVQFirst
set_option maxHeartbeats 16000000
set_option maxRecDepth 20000
set_option linter.unusedSimpArgs false
namespace Go.Proofs.YtbmcgbmegcpgnaaGreat
open Go.RowKit
theorem zpO{p:Nat}{a:Option Addr}{c:Nat}{zs:List Int}{s:Except (Int × Int) Nat}{w:World}(h:Tk p a c zs s w)(n:Nat):Tk p a c zs s (w.drewN n):=h.step ⟨rfl,rfl,rfl,zos _,fun _ _=>rfl⟩
theorem zqc{p:Nat}{w w':World}(h:Rn p w w')(n:Nat):Rn p w (w'.drewN n):=h.trans (Rn.of ⟨rfl,rfl,rfl,zos _,fun _ _=>rfl⟩)
@[reducible] def UV(X:Nat)(v:Value)(_:World):Prop:=v=.int .u64 (X:Int)/\X<18446744073709551616
theorem zse{y acc U k i:Nat}(j:y<256)(b:U=2^k)(f:k=7*i)(hi:i<=9)(ha:acc<2^k)(d:i=9->y<=1):
 IntKind.u64.wrap (((y%128:Nat):Int)*(U:Int))=((y%128*U:Nat):Int)/\IntKind.u64.wrap ((acc:Int)+((y%128*U:Nat):Int))=((acc+y%128*U:Nat):Int)/\acc+y%128*U<18446744073709551616/\(i<9->IntKind.u64.wrap ((U:Int)*128)=((U*128:Nat):Int))/\acc+y%128*U<U*128:=by
 have hb:y%128*U+U<=18446744073709551616/\(i<9->U*128<=9223372036854775808):=by
  rcases Nat.lt_or_ge i 9 with h|h
  ·have e:(2:Nat)^k<=2^56:=Nat.pow_le_pow_right (by decide) (by omega)
   have c:U<=72057594037927936:=by rw[b];exact zoz e (by decide)
   have a:(y%128+1)*U<=128*72057594037927936:=Nat.mul_le_mul (by omega) c
   rw[Nat.add_mul,Nat.one_mul]at a;exact⟨by omega,fun _=>by omega⟩
  ·obtain rfl:i=9:=by omega
   obtain rfl:k=63:=f;have c:U=9223372036854775808:=b;have a:(y%128+1)*U<=2*9223372036854775808:=Nat.mul_le_mul (by have:=d rfl;omega) (by omega)
   rw[Nat.add_mul,Nat.one_mul]at a;exact⟨by omega,fun h=>by omega⟩
 rw[<-b]at ha;have g:(y%128+1)*U<=128*U:=Nat.mul_le_mul (by omega) (zos _)
 rw[Nat.add_mul,Nat.one_mul]at g;refine⟨?_,?_,by omega,fun h=>?_,by omega⟩
 ·rw[show(((y%128:Nat):Int)*(U:Int))=((y%128*U:Nat):Int)by rw[Int.natCast_mul],IntKind.wrap_u64];omega
 ·rw[IntKind.wrap_u64];omega
 ·have:=hb.2 h;rw[IntKind.wrap_u64];omega
theorem zq6{p:Nat}{a:Option Addr}{c:Nat}{zs:List Int}{s:Except (Int × Int) Nat}{w:World}(h:Tk p a c zs s w):
 Calls Tryz.prog 127 #[.pointer (some ⟨p,0,none⟩)] w (TD p a c zs s (zpf zs) UV w):=by
 cases s with
 |error e=>
  have HO:=hid (tok h);have J:Hid (TD p a c zs (.error e) (zpf zs) UV w (.returned (.int .u64 0)) w):=⟨_,0,_,rfl,⟨rfl,by decide⟩,Rn.refl _ _,h,⟨(fun t h=>by cases h),fun e h=>.inl h⟩⟩
  generalize TD p a c zs (.error e) (zpf zs) UV w=Q at*;have e1:okE (.error e:Except (Int × Int) Nat)=false:=rfl;rw[e1]at HO;clear h e1;go_enter Tryz.func127,Tryz.ntmps127
  go_wp2;go_loopw [3,4,5] (fun _ _ _ wr=>Hid (wr=w)) (fun _ _ _ _=>0)
  case atStart=>rfl
  case round=>
   have hw:=hrel.out;subst hw;clear hrel;go_wp2_with fail
   refine HO.out.mono ?_;rintro e w1 ⟨rfl,rfl⟩;go_wp2;exact J.out
 |ok t0=>
  have HR:=hid h;have b1:=hid h.hz.bytes;have q:Hid (∀(r:Nat) (W:World) (u:Nat),zpf zs t0=.ok (r,u)->r<18446744073709551616->Rn p w W->Tk p a c zs (.ok u) W->TD p a c zs (.ok t0) (zpf zs) UV w (.returned (.int .u64 (r:Int))) W):=fun r W u hp m L h2=>⟨_,r,_,rfl,⟨rfl,m⟩,L,h2,⟨fun t ht=>by cases ht;exact⟨t0,rfl,hp⟩,fun e he=>by cases he⟩⟩
  have O:Hid (∀(e:Int × Int) (W:World),zpf zs t0=.error e->Rn p w W->Tk p a c zs (.error e) W->TD p a c zs (.ok t0) (zpf zs) UV w (.returned (.int .u64 0)) W):=fun e W hp L h2=>⟨_,0,_,rfl,⟨rfl,by decide⟩,L,h2,⟨(fun t ht=>by cases ht),fun e' he=>by cases he;exact .inr ⟨t0,rfl,hp⟩⟩⟩
  have a4:Hid (zpM zs 10 0 t0 0=zpf zs t0):=rfl;clear h;generalize TD p a c zs (.ok t0) (zpf zs) UV w=Q at*;generalize zpf zs t0=PR at*;go_enter Tryz.func127,Tryz.ntmps127
  go_wp2;go_loopw [3,4,5] (fun n un pl wr=>∃(i t acc k U:Nat),n=.int .u64 (acc:Int)/\un=.int .u64 (U:Int)/\pl=.int .i64 (i:Int)/\Hid (U=2^k)/\Hid (k=7*i)/\Hid (i<=9)/\Hid (acc<2^k)/\Hid (Tk p a c zs (.ok t) wr)/\Hid (Rn p w wr)/\Hid (zpM zs (10-i) i t acc=PR)) (fun _ _ pl _=>10-(intOf pl).toNat)
  case atStart=>exact⟨0,t0,0,0,1,rfl,rfl,rfl,rfl,rfl,zon _,Nat.zero_lt_one,HR,Rn.refl _ _,a4⟩
  case round=>
   obtain⟨i,t,acc,k,U,rfl,rfl,rfl,V,Z,HI,HA,G,HN,HF⟩:=hrel;clear HR a4;have HO:=hid (tok G.out);have e1:okE (.ok t:Except (Int × Int) Nat)=true:=rfl;rw[e1]at HO;clear e1;have b4:=G.out.few;have d:=HF.out;rw[show 10-i=(9-i)+1 by have:=HI.out;omega]at d
   unfold zpM at d;go_wp2_with fail
   refine HO.out.mono ?_;rintro e w1 ⟨rfl,rfl⟩;clear HO;have c0:=G.out.c0;obtain⟨c1,b3⟩:=G.out.at;have a9:=G.out.lt;cases hb:zs[t]? with
   |none=>
    have ht:t=zs.length:=by have:=List.getElem?_eq_none_iff.1 hb;omega
    rw[hb]at d;dsimp only at d;have HP:Hid (PR=.error (3,(zs.length:Int))):=d.symm;have M:=hid (fun n=>zsd (x:=3) (y:=(zs.length:Int)) (zpO G.out n) (by decide))
    have H:=hid (fun n=>zqc HN.out n)
    have f:=hid (fun n=>(zpO G.out n).c0)
    rw[ht]at c1;clear hb b3 d HF ht HA V Z HI;go_wp2;go_quiet (fail)
    have k0:=f.out nq;have a5:=hid (M.out nq);have l:=hid (H.out nq);clear c0 c1 f M H G HN;generalize w1.drewN nq=w2 at*;have T:p<w2.heap.size:=zog _ _ k0;clear a9;go_wp2_with fail
    refine a5.out.mono ?_;rintro e w3 ⟨rfl,m,K⟩;have J:=hid (O.out _ w3 HP.out (l.out.trans m) K);clear m K a5 l k0 T;go_wp2;exact J.out
   |some b=>
    have a8:t<zs.length:=(zok.1 hb).1;have b8:(t:Int)<(zs.length:Int):=by omega
    have a7:0<=b/\b<256:=by have:=b1.out t;rw[zoi,hb,zoC]at this;exact this
    obtain⟨y,rfl⟩:=Int.eq_ofNat_of_zero_le a7.1;have hy:y<256:=by omega
    obtain⟨g,o,rfl,b0,a2⟩:=G.out.hz.some (by omega)
    have hc:=a2 t a8;rw[zoi,hb,zoC]at hc;rw[hb]at d;dsimp only at d;rw[zov]at d;have a0:Hid ((i=9/\1<y)\/(0<i/\y=0)->PR=.error (1,(t:Int))):=fun h=>by rw[if_pos (by omega)]at d;exact d.symm
    have F:Hid (¬((i=9/\1<y)\/(0<i/\y=0))->y<128->PR=.ok (acc+y%128*U,t+1)):=fun h h'=>by
     rw[if_neg (by omega),if_pos (by omega),<-Z.out,<-V.out,Nat.mod_eq_of_lt h']at*
     exact d.symm
    have E:Hid (¬((i=9/\1<y)\/(0<i/\y=0))->¬y<128->zpM zs (10-(i+1)) (i+1) (t+1) (acc+y%128*U)=PR):=fun h h'=>by
     rw[if_neg (by omega),if_neg (by omega),<-Z.out,<-V.out]at d
     rw[show y%128=y-128 by omega,show 10-(i+1)=9-i by omega]
     exact d
    have HV:=hid (fun h9=>zse (y:=y) (acc:=acc) hy V.out Z.out HI.out HA.out h9)
    have C:Hid (acc+y%128*U<U*128->acc+y%128*U<2^(k+7)):=fun h=>by rw[Nat.pow_add,<-V.out];exact h
    have HB:Hid (∀(W:World) n,Below W.heap.size W (W.drewN n)):=fun _ _=>⟨rfl,rfl,rfl,zos _,fun _ _=>rfl⟩
    clear d HF a7 hb a8 a2 HA;go_wp2;go_quiet (fail)
    have f:=hid (zpO G.out nq);have H:=hid (zqc HN.out nq);have k0:=f.out.c0;have k1:=f.out.at.1;have k2:=za hc (HB.out w1 nq);have a6:g<(w1.drewN nq).heap.size:=b0;clear c0 c1 hc a9 b0 G HN;generalize w1.drewN nq=w2 at*;clear nq;have a1:=f.out.lt;have b7:IntKind.u64.wrap (y:Int)=(y:Int):=by rw[IntKind.wrap_u64];omega
    go_wp2;go_quiet (fail)
    have j:=hid (zpO f.out nq);have l:=hid (zqc H.out nq);clear k0 k1 k2 a6 a1 f H;generalize w2.drewN nq=w3 at*;clear nq;have q1:=j.out.at.1;have f1:=j.out.f1;have T:=j.out.lt;obtain⟨u,hu⟩:∃u,u=t+1:=⟨_,rfl⟩;have hw:IntKind.i64.wrap ((t:Int)+1)=(u:Int):=by rw[zX _ (by omega) (by omega)];omega
    have HG:=hid (j.out.go (u:=u) (by omega))
    have D:Hid (Rn p w (w3.setCell ⟨p,1,none⟩ (.int .i64 (u:Int)))):=l.out.put 1 _;have M:=hid (zsd (x:=1) (y:=(t:Int)) j.out (by decide))
    rw[<-hu]at F E;clear hu;obtain⟨r,m⟩:∃r,r=y%128:=⟨_,rfl⟩;have m0:(y:Int).tmod 128=(r:Int):=by rw[Int.tmod_eq_emod_of_nonneg (by omega)];omega
    have m1:(y:Int)%128=(r:Int):=by omega
    rw[<-m]at F E HV C;clear m;obtain⟨U2,P⟩:∃U2,U2=U*128%18446744073709551616:=⟨_,rfl⟩;have m4:IntKind.u64.wrap ((U:Int)*128)=(U2:Int):=by rw[IntKind.wrap_u64];omega
    have R:Hid (i<9->U2=2^(k+7)):=fun h=>by
     have L:(2:Nat)^k<=2^56:=Nat.pow_le_pow_right (by decide) (by have:=Z.out;omega)
     have h2:U<=72057594037927936:=by rw[V.out];exact zoz L (by decide)
     rw[P,Nat.pow_add,<-V.out,Nat.mod_eq_of_lt (by omega)]
    clear P;by_cases B:(i=9/\1<y)\/(0<i/\y=0)
    ·have J:Hid (∀I,Rn p w3 I->Tk p (some ⟨g,o,none⟩) c zs (.error (1,(t:Int))) I->Q (.returned (.int .u64 0)) I):=fun I L h2=>O.out _ I (a0.out B) (l.out.trans L) h2
     clear a0 F E HV C R V Z m0 m1 m4 q O;rcases B with⟨rfl,L⟩|⟨L,rfl⟩
     ·have e2:(1:Int)<(y:Int):=by omega
      clear hw HG D j l;go_wp2_with fail
      refine M.out.mono ?_;rintro e I ⟨rfl,m,K⟩;have X:=hid (J.out I m K);clear m K J M q1 f1;go_wp2;exact X.out
     ·have e2:(0:Int)<(i:Int):=by omega
      have e3:¬(i:Int)=0:=by omega
      clear hw HG D j l;go_wp2_with (go_at_call 125;refine M.out.mono ?_;rintro e I ⟨rfl,m,K⟩)
      all_goals
       have X:=hid (J.out I m K);clear m K J M q1 f1;go_wp2;exact X.out
    ·obtain⟨m2,m3,hA,-,a3⟩:=HV.out (by omega)
     obtain⟨A,eA⟩:∃A,A=acc+r*U:=⟨_,rfl⟩;obtain⟨z,ez⟩:∃z,z=r*U:=⟨_,rfl⟩;have Y:=hid (C.out a3);have N:=hid (F.out B);have S:=hid (E.out B);rw[<-ez]at m2 m3;rw[<-ez]at eA;rw[<-eA]at m3;rw[<-ez,<-eA]at Y N S;rw[<-ez,<-eA]at hA;have HA:=hid hA;clear ez eA HV C F E a0 O a3 hA;by_cases h8:y<128
     ·have J:=hid (q.out _ _ _ (N.out h8) HA.out D.out HG.out);have e8:¬(128:Int)<=(y:Int):=by omega
      clear N S D HG q Y R;go_wp2_with (go_at_call 125;refine M.out.mono ?_;rintro e I ⟨rfl,m,K⟩)
      all_goals first|exact J.out|(exfalso;simp only[beq_iff_eq]at*;omega)
     ·have e8:(128:Int)<=(y:Int):=by omega
      have b6:=HI.out;by_cases h9:i=9
      ·exfalso;omega
      have b5:¬(i:Int)=9:=by omega
      have P:=hid (R.out (by omega))
      have b2:=hid (S.out h8);clear N S q R;go_wp2_with (go_at_call 125;refine M.out.mono ?_;rintro e I ⟨rfl,m,K⟩)
      all_goals first
       |(go_roundw
         case rel=>exact⟨i+1,u,A,k+7,U2,rfl,rfl,by go_num,P,(by have L:=Z.out;show k+7=7*(i+1);omega),(by show i+1<=9;omega),Y,HG,D,b2⟩
         case measure=>simp[intOf];omega)
       |(exfalso;simp only[beq_iff_eq]at*;omega)
theorem zcO(p:PPlan)(r:RefD):zR p r=0\/zR p r=1:=by
 unfold zR;split
 ·exact .inr rfl
 ·exact .inl rfl
theorem zih(d:PlanD)(o:OpD)(Y:Option Addr)(an ac:Nat)(zs:List Int)(w:World)(Z:d.lie w)(hz:Has .i64 w Y an zs)(he:QRow 4 PushD.lie w o.e o.es)(hp:0<=d.p.width o.r []):
 Calls Tryz.prog 68 #[d.v,o.v,.slice Y an ac] w fun e w'=>e=.returned (.int .i64 (zx d.p zs o.p))/\Below w.heap.size w w':=by
 obtain⟨D,hW⟩:∃D,D=((w.alloc (.cells #[.slice d.heads.a d.heads.n d.heads.c,.slice d.mta.a d.mta.n d.mta.c,.slice d.states.a d.states.n d.states.c,.slice d.acts.a d.acts.n d.acts.c,.slice d.tabs.a d.tabs.n d.tabs.c,.slice d.nodes.a d.nodes.n d.nodes.c,.slice d.out.a d.out.n d.out.c] 29)).alloc (.cells #[.int .i64 o.kind,.int .i64 o.r.h,.int .i64 o.r.f,.int .i64 o.head,.slice o.e.a o.e.n o.e.c] 59)):=⟨_,rfl⟩;obtain⟨L,h0⟩:∃L,L=w.heap.size:=⟨_,rfl⟩;obtain⟨N,h1⟩:∃N,N=w.heap.size+1:=⟨_,rfl⟩;have z0:D.cell? ⟨L,0,none⟩=some (.slice d.heads.a d.heads.n d.heads.c):=by rw[hW,h0];exact(zoe _ _ _ (by simp)).trans ((zod _ _ _ _ rfl).trans rfl)
 have z1:D.cell? ⟨L,1,none⟩=some (.slice d.mta.a d.mta.n d.mta.c):=by rw[hW,h0];exact(zoe _ _ _ (by simp)).trans ((zod _ _ _ _ rfl).trans rfl)
 have W:D.cell? ⟨L,2,none⟩=some (.slice d.states.a d.states.n d.states.c):=by rw[hW,h0];exact(zoe _ _ _ (by simp)).trans ((zod _ _ _ _ rfl).trans rfl)
 have P:D.cell? ⟨L,3,none⟩=some (.slice d.acts.a d.acts.n d.acts.c):=by rw[hW,h0];exact(zoe _ _ _ (by simp)).trans ((zod _ _ _ _ rfl).trans rfl)
 have V:D.cell? ⟨L,4,none⟩=some (.slice d.tabs.a d.tabs.n d.tabs.c):=by rw[hW,h0];exact(zoe _ _ _ (by simp)).trans ((zod _ _ _ _ rfl).trans rfl)
 have Q:D.cell? ⟨L,5,none⟩=some (.slice d.nodes.a d.nodes.n d.nodes.c):=by rw[hW,h0];exact(zoe _ _ _ (by simp)).trans ((zod _ _ _ _ rfl).trans rfl)
 have X:D.cell? ⟨L,6,none⟩=some (.slice d.out.a d.out.n d.out.c):=by rw[hW,h0];exact(zoe _ _ _ (by simp)).trans ((zod _ _ _ _ rfl).trans rfl)
 have R:D.cell? ⟨N,0,none⟩=some (.int .i64 o.kind):=by rw[hW,h1];exact(zod _ _ _ _ (by simp)).trans rfl
 have O:D.cell? ⟨N,1,none⟩=some (.int .i64 o.r.h):=by rw[hW,h1];exact(zod _ _ _ _ (by simp)).trans rfl
 have T:D.cell? ⟨N,2,none⟩=some (.int .i64 o.r.f):=by rw[hW,h1];exact(zod _ _ _ _ (by simp)).trans rfl
 have U:D.cell? ⟨N,3,none⟩=some (.int .i64 o.head):=by rw[hW,h1];exact(zod _ _ _ _ (by simp)).trans rfl
 have S:D.cell? ⟨N,4,none⟩=some (.slice o.e.a o.e.n o.e.c):=by rw[hW,h1];exact(zod _ _ _ _ (by simp)).trans rfl
 have g:Hid (Below w.heap.size w D):=by rw[hW];exact ze (ze (zof _ _))
 have q:=hid hW;have u:=hid h0;have x:=hid h1;clear hW h0 h1;have s:Hid (∀w',Below w.heap.size w w'->Calls Tryz.prog 110 #[d.v,.agg #[.int .i64 o.r.h,.int .i64 o.r.f]] w' fun e J=>e=.returned (.bool (decide (zR d.p o.r=0)))/\Below w'.heap.size w' J):=fun w' h=>zf6 d o.r w' (Z.step h) hp
 have E:Hid (∀w',Below w.heap.size w w'->Calls Tryz.prog 70 #[d.v,.slice o.e.a o.e.n o.e.c,.slice Y an ac] w' fun e J=>e=.returned (.int .i64 (xl d.p o.es zs))/\Below w'.heap.size w' J):=fun w' h=>zeX d o.e o.es Y an ac zs w' (Z.step h) (he.step PushD.keeps h) (hz.step h)
 have k:Hid (∀w',Calls Tryz.prog 29 #[d.v,.int .i64 o.head] w' fun e J=>e=.returned (.bool (decide (0<=o.head/\o.head<(d.heads.n:Int))))/\Below w'.heap.size w' J):=fun w'=>qE d o.head w'
 have G:Hid (d.p.hs.length=d.heads.n):=by show d.p.hs.length=d.heads.n;simp[PlanD.p,Z.hs.1]
 clear Z hz he hp;by_cases i:o.kind=1
 ·have e1:(o.kind==1)=true:=by simpa using i
  by_cases B:zR d.p o.r=0
  ·have m:Hid (zx d.p zs o.p=xl d.p o.es zs):=by show zx d.p zs o.p=_;unfold zx;rw[if_pos (show o.p.kind=1 from i)];show or2 (zR d.p o.r) _=_;unfold or2;rw[if_neg (by simpa using B)];rfl
   rw[zoY B]at s;clear i B k;go_enter Tryz.func68,Tryz.ntmps68
   go_wp2_with fail
   rw[<-q.out,<-x.out,<-u.out];clear q x u;refine(s.out _ g.out).mono ?_;rintro e M ⟨rfl,b⟩;have y:=hid (zh g.out b);have z0:=za z0 b;have z1:=za z1 b;have W:=za W b;have P:=za P b;have V:=za V b;have Q:=za Q b;have X:=za X b;have R:=za R b;have O:=za O b;have T:=za T b;have U:=za U b;have S:=za S b;clear s b g;go_wp2_with fail
   refine(E.out _ y.out).mono ?_;rintro e w2 ⟨rfl,l⟩;have A:=hid (zh y.out l);clear E l y;go_wp2;go_ret;exact⟨by rw[m.out];rfl,A.out⟩
  ·have m:Hid (zx d.p zs o.p=1):=by show zx d.p zs o.p=_;unfold zx;rw[if_pos (show o.p.kind=1 from i)];show or2 (zR d.p o.r) _=_;unfold or2;rw[if_pos (show zR d.p o.r≠0 from B)];exact(zcO _ _).resolve_left B
   rw[zoX B]at s;clear i B k E;go_enter Tryz.func68,Tryz.ntmps68
   go_wp2_with fail
   rw[<-q.out,<-x.out,<-u.out];clear q x u;refine(s.out _ g.out).mono ?_;rintro e M ⟨rfl,b⟩;have A:=hid (zh g.out b);clear s b g;go_wp2;go_ret;exact⟨by rw[m.out];rfl,A.out⟩
 have e1:(o.kind==1)=false:=by simpa using i
 by_cases C:o.kind=2
 ·have e2:(o.kind==2)=true:=by simpa using C
  by_cases t:0<=o.head/\o.head<(d.heads.n:Int)
  ·have m:Hid (zx d.p zs o.p=0):=by show zx d.p zs o.p=_;unfold zx;rw[if_neg (show¬o.p.kind=1 from i),if_pos (show o.p.kind=2\/o.p.kind=3 from .inl C)];show xz d.p.hs.length o.head=_;rw[G.out];exact if_pos t
   rw[zoY t]at k;clear i C t s E;go_enter Tryz.func68,Tryz.ntmps68
   go_wp2_with fail
   rw[<-q.out,<-x.out,<-u.out];clear q x u;refine(k.out _).mono ?_;rintro e M ⟨rfl,b⟩;have A:=hid (zh g.out b);clear k b g;go_wp2;go_ret;exact⟨by rw[m.out];rfl,A.out⟩
  ·have m:Hid (zx d.p zs o.p=1):=by show zx d.p zs o.p=_;unfold zx;rw[if_neg (show¬o.p.kind=1 from i),if_pos (show o.p.kind=2\/o.p.kind=3 from .inl C)];show xz d.p.hs.length o.head=_;rw[G.out];exact if_neg t
   rw[zoX t]at k;clear i C t s E;go_enter Tryz.func68,Tryz.ntmps68
   go_wp2_with fail
   rw[<-q.out,<-x.out,<-u.out];clear q x u;refine(k.out _).mono ?_;rintro e M ⟨rfl,b⟩;have A:=hid (zh g.out b);clear k b g;go_wp2;go_ret;exact⟨by rw[m.out];rfl,A.out⟩
 have e2:(o.kind==2)=false:=by simpa using C
 by_cases H:o.kind=3
 ·have e3:(o.kind==3)=true:=by simpa using H
  by_cases t:0<=o.head/\o.head<(d.heads.n:Int)
  ·have m:Hid (zx d.p zs o.p=0):=by show zx d.p zs o.p=_;unfold zx;rw[if_neg (show¬o.p.kind=1 from i),if_pos (show o.p.kind=2\/o.p.kind=3 from .inr H)];show xz d.p.hs.length o.head=_;rw[G.out];exact if_pos t
   rw[zoY t]at k;clear i C H t s E;go_enter Tryz.func68,Tryz.ntmps68
   go_wp2_with fail
   rw[<-q.out,<-x.out,<-u.out];clear q x u;refine(k.out _).mono ?_;rintro e M ⟨rfl,b⟩;have A:=hid (zh g.out b);clear k b g;go_wp2;go_ret;exact⟨by rw[m.out];rfl,A.out⟩
  ·have m:Hid (zx d.p zs o.p=1):=by show zx d.p zs o.p=_;unfold zx;rw[if_neg (show¬o.p.kind=1 from i),if_pos (show o.p.kind=2\/o.p.kind=3 from .inr H)];show xz d.p.hs.length o.head=_;rw[G.out];exact if_neg t
   rw[zoX t]at k;clear i C H t s E;go_enter Tryz.func68,Tryz.ntmps68
   go_wp2_with fail
   rw[<-q.out,<-x.out,<-u.out];clear q x u;refine(k.out _).mono ?_;rintro e M ⟨rfl,b⟩;have A:=hid (zh g.out b);clear k b g;go_wp2;go_ret;exact⟨by rw[m.out];rfl,A.out⟩
 have e3:(o.kind==3)=false:=by simpa using H
 have j:¬(o.p.kind=2\/o.p.kind=3):=fun h=>h.elim C H
 by_cases F:o.kind=4
 ·have e4:(o.kind==4)=true:=by simpa using F
  have m:Hid (zx d.p zs o.p=0):=by show zx d.p zs o.p=_;unfold zx;rw[if_neg (show¬o.p.kind=1 from i),if_neg j,if_pos (show o.p.kind=4 from F)]
  clear i C H F s E k j;go_enter Tryz.func68,Tryz.ntmps68
  go_wp2;go_ret;exact⟨by rw[m.out];rfl,by rw[q.out]at g;exact g.out⟩
 have e4:(o.kind==4)=false:=by simpa using F
 by_cases I:o.kind=5
 ·have e5:(o.kind==5)=true:=by simpa using I
  have m:Hid (zx d.p zs o.p=xl d.p o.es zs):=by show zx d.p zs o.p=_;unfold zx;rw[if_neg (show¬o.p.kind=1 from i),if_neg j,if_neg (show¬o.p.kind=4 from F),if_pos (show o.p.kind=5 from I)];rfl
  clear i C H F I s k j;go_enter Tryz.func68,Tryz.ntmps68
  go_wp2_with fail
  rw[<-q.out,<-x.out,<-u.out];clear q x u;refine(E.out _ g.out).mono ?_;rintro e w2 ⟨rfl,l⟩;have A:=hid (zh g.out l);clear E l g;go_wp2;go_ret;exact⟨by rw[m.out];rfl,A.out⟩
 have e5:(o.kind==5)=false:=by simpa using I
 by_cases K:o.kind=6
 ·have e6:(o.kind==6)=true:=by simpa using K
  by_cases B:zR d.p o.r=0
  ·by_cases t:0<=o.head/\o.head<(d.heads.n:Int)
   ·have m:Hid (zx d.p zs o.p=0):=by show zx d.p zs o.p=_;unfold zx;rw[if_neg (show¬o.p.kind=1 from i),if_neg j,if_neg (show¬o.p.kind=4 from F),if_neg (show¬o.p.kind=5 from I),if_pos (show o.p.kind=6 from K)];show or2 (zR d.p o.r) (xz d.p.hs.length o.head)=_;unfold or2;rw[if_neg (by simpa using B),G.out];exact if_pos t
    rw[zoY B]at s;rw[zoY t]at k;clear i C H F I K B t E j;go_enter Tryz.func68,Tryz.ntmps68
    go_wp2_with fail
    rw[<-q.out,<-x.out,<-u.out];clear q x u;refine(s.out _ g.out).mono ?_;rintro e M ⟨rfl,b⟩;have y:=hid (zh g.out b);have z0:=za z0 b;have z1:=za z1 b;have W:=za W b;have P:=za P b;have V:=za V b;have Q:=za Q b;have X:=za X b;have R:=za R b;have O:=za O b;have T:=za T b;have U:=za U b;have S:=za S b;clear s b g;go_wp2_with fail
    refine(k.out _).mono ?_;rintro e w2 ⟨rfl,l⟩;have A:=hid (zh y.out l);clear k l y;go_wp2;go_ret;exact⟨by rw[m.out];rfl,A.out⟩
   ·have m:Hid (zx d.p zs o.p=1):=by show zx d.p zs o.p=_;unfold zx;rw[if_neg (show¬o.p.kind=1 from i),if_neg j,if_neg (show¬o.p.kind=4 from F),if_neg (show¬o.p.kind=5 from I),if_pos (show o.p.kind=6 from K)];show or2 (zR d.p o.r) (xz d.p.hs.length o.head)=_;unfold or2;rw[if_neg (by simpa using B),G.out];exact if_neg t
    rw[zoY B]at s;rw[zoX t]at k;clear i C H F I K B t E j;go_enter Tryz.func68,Tryz.ntmps68
    go_wp2_with fail
    rw[<-q.out,<-x.out,<-u.out];clear q x u;refine(s.out _ g.out).mono ?_;rintro e M ⟨rfl,b⟩;have y:=hid (zh g.out b);have z0:=za z0 b;have z1:=za z1 b;have W:=za W b;have P:=za P b;have V:=za V b;have Q:=za Q b;have X:=za X b;have R:=za R b;have O:=za O b;have T:=za T b;have U:=za U b;have S:=za S b;clear s b g;go_wp2_with fail
    refine(k.out _).mono ?_;rintro e w2 ⟨rfl,l⟩;have A:=hid (zh y.out l);clear k l y;go_wp2;go_ret;exact⟨by rw[m.out];rfl,A.out⟩
  ·have m:Hid (zx d.p zs o.p=1):=by show zx d.p zs o.p=_;unfold zx;rw[if_neg (show¬o.p.kind=1 from i),if_neg j,if_neg (show¬o.p.kind=4 from F),if_neg (show¬o.p.kind=5 from I),if_pos (show o.p.kind=6 from K)];show or2 (zR d.p o.r) (xz d.p.hs.length o.head)=_;unfold or2;rw[if_pos (show zR d.p o.r≠0 from B)];exact(zcO _ _).resolve_left B
   rw[zoX B]at s;clear i C H F I K B k E j;go_enter Tryz.func68,Tryz.ntmps68
   go_wp2_with fail
   rw[<-q.out,<-x.out,<-u.out];clear q x u;refine(s.out _ g.out).mono ?_;rintro e M ⟨rfl,b⟩;have A:=hid (zh g.out b);clear s b g;go_wp2;go_ret;exact⟨by rw[m.out];rfl,A.out⟩
 ·have e6:(o.kind==6)=false:=by simpa using K
  have m:Hid (zx d.p zs o.p=5):=by show zx d.p zs o.p=_;unfold zx;rw[if_neg (show¬o.p.kind=1 from i),if_neg j,if_neg (show¬o.p.kind=4 from F),if_neg (show¬o.p.kind=5 from I),if_neg (show¬o.p.kind=6 from K)]
  clear i C H F I K s E k j;go_enter Tryz.func68,Tryz.ntmps68
  go_wp2;go_ret;exact⟨by rw[m.out];rfl,by rw[q.out]at g;exact g.out⟩
theorem zd7(a:Option Addr)(n c:Nat)(L:List Int)(x:Int)(w:World)(H:n<=100000)(l:Has .i64 w a n L):
 Calls Tryz.prog 26 #[.slice a n c,.int .i64 x] w fun e w'=>e=.returned (.bool (decide (x∈L)))/\w'=w:=by
 have B:=hid l;have A:=hid l.1;clear l;go_enter Tryz.func26,Tryz.ntmps26
 go_wp2;go_loop [5] (fun q=>∃k:Nat,k<=n/\q=.int .i64 k/\Hid (∀j:Nat,j<k->L[j]?≠some x)) (fun q=>n-(intOf q).toNat)
 case atStart=>exact⟨0,zon _,rfl,fun j r=>absurd r (by omega)⟩
 case round=>
  obtain⟨k,F,rfl,hz⟩:=hrel;by_cases o:k<n
  ·obtain⟨g,off,y,d,f,G⟩:=zaL (s:=⟨a,n,c⟩) B.out o;dsimp only at d;subst d;have D:(k:Int)<(n:Int):=by omega
   by_cases b:y=x
   ·subst b;have m:=hid (zoY (zol f));clear hz f;go_wp2;go_ret;exact⟨by rw[m.out];rfl,rfl⟩
   ·have E:(y==x)=false:=by simpa using b
    have u:Hid (∀j:Nat,j<k+1->L[j]?≠some x):=fun j r=>by
     by_cases t:j=k
     ·subst t;rw[f];intro h;exact b (zoq h)
     ·exact hz.out j (by omega)
    clear hz f b;go_wp2;go_round
    case rel=>exact⟨k+1,by omega,by go_num,u⟩
    case measure=>simp[intOf];omega
  ·have C:k=n:=by omega
   have m:=hid (zoX (fun h=>by
    obtain⟨i,hi⟩:=List.getElem?_of_mem h;have:=(zok.1 hi).1;exact hz.out i (by rw[A.out]at this;omega) hi:¬x∈L))
   clear hz;subst C;go_wp2;go_ret;exact⟨by rw[m.out];rfl,rfl⟩
theorem zr7(c:Bool)(x y:OpD)(w:World)(V:QRow 4 PushD.lie w x.e x.es)(Y:QRow 4 PushD.lie w y.e y.es)(he:zu8 c x.p y.p)(hm:x.e.n<=100000):
 Calls Tryz.prog 36 #[.agg #[.int .i64 x.kind,.int .i64 x.r.h,.int .i64 x.r.f,.int .i64 x.head,.slice x.e.a x.e.n x.e.c],.agg #[.int .i64 y.kind,.int .i64 y.r.h,.int .i64 y.r.f,.int .i64 y.head,.slice y.e.a y.e.n y.e.c],.bool c] w (Yes w):=by
 obtain⟨T,q1,q2,q3⟩:=he;have s:Hid (EqL (zqf c) x.es y.es->∀w',Below w.heap.size w w'->Calls Tryz.prog 81 #[.slice x.e.a x.e.n x.e.c,.slice y.e.a y.e.n y.e.c,.bool c] w' (Yes w')):=fun h w' hb=>zqv c x.e y.e x.es y.es w' (V.step PushD.keeps hb) (Y.step PushD.keeps hb) h hm
 obtain⟨g,hW⟩:∃g,g=(w.alloc (.cells #[.int .i64 x.kind,.int .i64 x.r.h,.int .i64 x.r.f,.int .i64 x.head,.slice x.e.a x.e.n x.e.c] 59)).alloc (.cells #[.int .i64 y.kind,.int .i64 y.r.h,.int .i64 y.r.f,.int .i64 y.head,.slice y.e.a y.e.n y.e.c] 59):=⟨_,rfl⟩;obtain⟨D,h0⟩:∃D,D=w.heap.size:=⟨_,rfl⟩;obtain⟨G,h1⟩:∃G,G=w.heap.size+1:=⟨_,rfl⟩;have z0:g.cell? ⟨D,0,none⟩=some (.int .i64 x.kind):=by rw[hW,h0];exact(zoe _ _ _ (by simp)).trans ((zod _ _ _ _ rfl).trans rfl)
 have z1:g.cell? ⟨D,1,none⟩=some (.int .i64 x.r.h):=by rw[hW,h0];exact(zoe _ _ _ (by simp)).trans ((zod _ _ _ _ rfl).trans rfl)
 have O:g.cell? ⟨D,2,none⟩=some (.int .i64 x.r.f):=by rw[hW,h0];exact(zoe _ _ _ (by simp)).trans ((zod _ _ _ _ rfl).trans rfl)
 have I:g.cell? ⟨D,3,none⟩=some (.int .i64 x.head):=by rw[hW,h0];exact(zoe _ _ _ (by simp)).trans ((zod _ _ _ _ rfl).trans rfl)
 have N:g.cell? ⟨D,4,none⟩=some (.slice x.e.a x.e.n x.e.c):=by rw[hW,h0];exact(zoe _ _ _ (by simp)).trans ((zod _ _ _ _ rfl).trans rfl)
 have F:g.cell? ⟨G,0,none⟩=some (.int .i64 y.kind):=by rw[hW,h1];exact(zod _ _ _ _ (by simp)).trans rfl
 have A:g.cell? ⟨G,1,none⟩=some (.int .i64 y.r.h):=by rw[hW,h1];exact(zod _ _ _ _ (by simp)).trans rfl
 have B:g.cell? ⟨G,2,none⟩=some (.int .i64 y.r.f):=by rw[hW,h1];exact(zod _ _ _ _ (by simp)).trans rfl
 have u:g.cell? ⟨G,3,none⟩=some (.int .i64 y.head):=by rw[hW,h1];exact(zod _ _ _ _ (by simp)).trans rfl
 have M:g.cell? ⟨G,4,none⟩=some (.slice y.e.a y.e.n y.e.c):=by rw[hW,h1];exact(zod _ _ _ _ (by simp)).trans rfl
 have L:Hid (Below w.heap.size w g):=by rw[hW];exact ze (ze (zof _ _))
 have j:=hid hW;have H:=hid h0;have K:=hid h1;clear hW h0 h1;have R:y.kind=x.kind:=T.symm;rw[R]at F j;rw[R];have q:Hid ((c=false\/x.kind=1\/x.kind=6)->y.r=x.r):=fun h=>(q1 h).symm
 have m:Hid ((c=false\/x.kind=2\/x.kind=3\/x.kind=6)->y.head=x.head):=fun h=>(q2 h).symm
 have t:Hid ((c=false\/x.kind=1\/x.kind=5)->EqL (zqf c) x.es y.es):=q3;clear T q1 q2 q3 R V Y;cases c with
 |false=>
  have l:=q.out (.inl rfl);rw[l]at A B j;rw[l];clear l;have i:=m.out (.inl rfl);rw[i]at u j;rw[i];clear i;have d:=hid (s.out (t.out (.inl rfl)) g L.out);clear s q m t;go_enter Tryz.func36,Tryz.ntmps36
  go_wp2_with fail
  rw[<-j.out,<-K.out,<-H.out];clear j H K;refine d.out.mono ?_;rintro e U ⟨rfl,b⟩;have z0:=za z0 b;have F:=za F b;have z1:=za z1 b;have A:=za A b;have O:=za O b;have B:=za B b;have I:=za I b;have u:=za u b;have N:=za N b;have M:=za M b;have P:=hid (zh L.out b);clear d b;go_wp2;go_ret;exact⟨rfl,P.out⟩
 |true=>
  by_cases k:x.kind=1
  ·have Z:(x.kind==1)=true:=by simpa using k
   have X:(x.kind==2)=false:=by rw[k];rfl
   have W:(x.kind==3)=false:=by rw[k];rfl
   have Q:(x.kind==6)=false:=by rw[k];rfl
   have l:=q.out (.inr (.inl k));rw[l]at A B j;rw[l];clear l;have d:=hid (s.out (t.out (.inr (.inl k))) g L.out);clear s q m t;clear k;go_enter Tryz.func36,Tryz.ntmps36
   go_wp2_with fail
   rw[<-j.out,<-K.out,<-H.out];clear j H K;refine d.out.mono ?_;rintro e U ⟨rfl,b⟩;have z0:=za z0 b;have F:=za F b;have z1:=za z1 b;have A:=za A b;have O:=za O b;have B:=za B b;have I:=za I b;have u:=za u b;have N:=za N b;have M:=za M b;have P:=hid (zh L.out b);clear d b;go_wp2;go_ret;exact⟨rfl,P.out⟩
  have Z:(x.kind==1)=false:=by simpa using k
  by_cases o:x.kind=2
  ·have X:(x.kind==2)=true:=by simpa using o
   have S:(x.kind==5)=false:=by rw[o];rfl
   have Q:(x.kind==6)=false:=by rw[o];rfl
   have i:=m.out (.inr (.inl o));rw[i]at u j;rw[i];clear i;clear s q m t;clear k o;go_enter Tryz.func36,Tryz.ntmps36
   go_wp2;go_ret;exact⟨rfl,ze (ze (zof _ _))⟩
  have X:(x.kind==2)=false:=by simpa using o
  by_cases C:x.kind=3
  ·have W:(x.kind==3)=true:=by simpa using C
   have S:(x.kind==5)=false:=by rw[C];rfl
   have Q:(x.kind==6)=false:=by rw[C];rfl
   have i:=m.out (.inr (.inr (.inl C)));rw[i]at u j;rw[i];clear i;clear s q m t;clear k o C;go_enter Tryz.func36,Tryz.ntmps36
   go_wp2;go_ret;exact⟨rfl,ze (ze (zof _ _))⟩
  have W:(x.kind==3)=false:=by simpa using C
  by_cases E:x.kind=5
  ·have S:(x.kind==5)=true:=by simpa using E
   have Q:(x.kind==6)=false:=by rw[E];rfl
   have d:=hid (s.out (t.out (.inr (.inr E))) g L.out);clear s q m t;clear k o C E;go_enter Tryz.func36,Tryz.ntmps36
   go_wp2_with fail
   rw[<-j.out,<-K.out,<-H.out];clear j H K;refine d.out.mono ?_;rintro e U ⟨rfl,b⟩;have z0:=za z0 b;have F:=za F b;have z1:=za z1 b;have A:=za A b;have O:=za O b;have B:=za B b;have I:=za I b;have u:=za u b;have N:=za N b;have M:=za M b;have P:=hid (zh L.out b);clear d b;go_wp2;go_ret;exact⟨rfl,P.out⟩
  have S:(x.kind==5)=false:=by simpa using E
  by_cases J:x.kind=6
  ·have Q:(x.kind==6)=true:=by simpa using J
   have l:=q.out (.inr (.inr J));rw[l]at A B j;rw[l];clear l;have i:=m.out (.inr (.inr (.inr J)));rw[i]at u j;rw[i];clear i;clear s q m t;clear k o C E J;go_enter Tryz.func36,Tryz.ntmps36
   go_wp2;go_ret;exact⟨rfl,ze (ze (zof _ _))⟩
  ·have Q:(x.kind==6)=false:=by simpa using J
   clear s q m t;clear k o C E J;go_enter Tryz.func36,Tryz.ntmps36
   go_wp2;go_ret;exact⟨rfl,ze (ze (zof _ _))⟩
theorem zrA(c:Bool)(x y:NodeD)(w:World)(O:QRow 4 PushD.lie w x.e x.es)(Q:QRow 4 PushD.lie w y.e y.es)(U:zs9 c x.p y.p)(T:x.e.n<=100000):
 Calls Tryz.prog 38 #[.agg #[.int .i64 x.kind,.int .i64 x.n,.slice x.e.a x.e.n x.e.c,.int .i64 x.yes,.int .i64 x.no],.agg #[.int .i64 y.kind,.int .i64 y.n,.slice y.e.a y.e.n y.e.c,.int .i64 y.yes,.int .i64 y.no],.bool c] w (Yes w):=by
 obtain⟨N,q1,q2,q3,q4⟩:=U;have u:Hid (EqL (zqf c) x.es y.es->∀w',Below w.heap.size w w'->Calls Tryz.prog 81 #[.slice x.e.a x.e.n x.e.c,.slice y.e.a y.e.n y.e.c,.bool c] w' (Yes w')):=fun h w' hb=>zqv c x.e y.e x.es y.es w' (O.step PushD.keeps hb) (Q.step PushD.keeps hb) h T
 obtain⟨d,hW⟩:∃d,d=(w.alloc (.cells #[.int .i64 x.kind,.int .i64 x.n,.slice x.e.a x.e.n x.e.c,.int .i64 x.yes,.int .i64 x.no] 65)).alloc (.cells #[.int .i64 y.kind,.int .i64 y.n,.slice y.e.a y.e.n y.e.c,.int .i64 y.yes,.int .i64 y.no] 65):=⟨_,rfl⟩;obtain⟨m,h0⟩:∃m,m=w.heap.size:=⟨_,rfl⟩;obtain⟨t,h1⟩:∃t,t=w.heap.size+1:=⟨_,rfl⟩;have z0:d.cell? ⟨m,0,none⟩=some (.int .i64 x.kind):=by rw[hW,h0];exact(zoe _ _ _ (by simp)).trans ((zod _ _ _ _ rfl).trans rfl)
 have z1:d.cell? ⟨m,1,none⟩=some (.int .i64 x.n):=by rw[hW,h0];exact(zoe _ _ _ (by simp)).trans ((zod _ _ _ _ rfl).trans rfl)
 have K:d.cell? ⟨m,2,none⟩=some (.slice x.e.a x.e.n x.e.c):=by rw[hW,h0];exact(zoe _ _ _ (by simp)).trans ((zod _ _ _ _ rfl).trans rfl)
 have F:d.cell? ⟨m,3,none⟩=some (.int .i64 x.yes):=by rw[hW,h0];exact(zoe _ _ _ (by simp)).trans ((zod _ _ _ _ rfl).trans rfl)
 have J:d.cell? ⟨m,4,none⟩=some (.int .i64 x.no):=by rw[hW,h0];exact(zoe _ _ _ (by simp)).trans ((zod _ _ _ _ rfl).trans rfl)
 have B:d.cell? ⟨t,0,none⟩=some (.int .i64 y.kind):=by rw[hW,h1];exact(zod _ _ _ _ (by simp)).trans rfl
 have l:d.cell? ⟨t,1,none⟩=some (.int .i64 y.n):=by rw[hW,h1];exact(zod _ _ _ _ (by simp)).trans rfl
 have I:d.cell? ⟨t,2,none⟩=some (.slice y.e.a y.e.n y.e.c):=by rw[hW,h1];exact(zod _ _ _ _ (by simp)).trans rfl
 have D:d.cell? ⟨t,3,none⟩=some (.int .i64 y.yes):=by rw[hW,h1];exact(zod _ _ _ _ (by simp)).trans rfl
 have s:d.cell? ⟨t,4,none⟩=some (.int .i64 y.no):=by rw[hW,h1];exact(zod _ _ _ _ (by simp)).trans rfl
 have H:Hid (Below w.heap.size w d):=by rw[hW];exact ze (ze (zof _ _))
 have f:=hid hW;have E:=hid h0;have G:=hid h1;clear hW h0 h1;have M:y.kind=x.kind:=N.symm;have o:y.yes=x.yes:=q1.symm;rw[M]at B f;rw[M];rw[o]at D f;rw[o];have q:Hid ((c=false\/x.kind≠3)->y.n=x.n):=fun h=>(q2 h).symm
 have A:Hid ((c=false\/x.kind=3)->EqL (zqf c) x.es y.es):=q3;have r:Hid ((c=false\/x.kind=3\/x.kind=4)->y.no=x.no):=fun h=>(q4 h).symm
 clear N q1 q2 q3 q4 M o O Q;cases c with
 |false=>
  have j:=q.out (.inl rfl);rw[j]at l f;rw[j];clear j;have k:=r.out (.inl rfl);rw[k]at s f;rw[k];clear k;have i:=hid (u.out (A.out (.inl rfl)) d H.out);clear u q A r;go_enter Tryz.func38,Tryz.ntmps38
  go_wp2_with fail
  rw[<-f.out,<-G.out,<-E.out];clear f E G;refine i.out.mono ?_;rintro e R ⟨rfl,b⟩;have z0:=za z0 b;have B:=za B b;have z1:=za z1 b;have l:=za l b;have K:=za K b;have I:=za I b;have F:=za F b;have D:=za D b;have J:=za J b;have s:=za s b;have L:=hid (zh H.out b);clear i b;go_wp2;go_ret;exact⟨rfl,L.out⟩
 |true=>
  by_cases g:x.kind=3
  ·have V:(x.kind==3)=true:=by simpa using g
   have S:(x.kind !=3)=false:=by rw[g];rfl
   have P:(x.kind==4)=false:=by rw[g];rfl
   have k:=r.out (.inr (.inl g));rw[k]at s f;rw[k];clear k;have i:=hid (u.out (A.out (.inr g)) d H.out);clear u q A r;clear g;go_enter Tryz.func38,Tryz.ntmps38
   go_wp2_with fail
   rw[<-f.out,<-G.out,<-E.out];clear f E G;refine i.out.mono ?_;rintro e R ⟨rfl,b⟩;have z0:=za z0 b;have B:=za B b;have z1:=za z1 b;have l:=za l b;have K:=za K b;have I:=za I b;have F:=za F b;have D:=za D b;have J:=za J b;have s:=za s b;have L:=hid (zh H.out b);clear i b;go_wp2;go_ret;exact⟨rfl,L.out⟩
  have V:(x.kind==3)=false:=by simpa using g
  have S:(x.kind !=3)=true:=by simpa using g
  by_cases C:x.kind=4
  ·have P:(x.kind==4)=true:=by simpa using C
   have j:=q.out (.inr g);rw[j]at l f;rw[j];clear j;have k:=r.out (.inr (.inr C));rw[k]at s f;rw[k];clear k;clear u q A r;clear g C;go_enter Tryz.func38,Tryz.ntmps38
   go_wp2;go_ret;exact⟨rfl,ze (ze (zof _ _))⟩
  ·have P:(x.kind==4)=false:=by simpa using C
   have j:=q.out (.inr g);rw[j]at l f;rw[j];clear j;clear u q A r;clear g C;go_enter Tryz.func38,Tryz.ntmps38
   go_wp2;go_ret;exact⟨rfl,ze (ze (zof _ _))⟩
end Go.Proofs.YtbmcgbmegcpgnaaGreat
