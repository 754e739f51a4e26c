import Derived.Test.YtdajaaondlekfaaGreatG21
import Derived.Test.YtdajaaondlekfaaGreatG13
set_option maxHeartbeats 16000000
set_option maxRecDepth 20000
set_option linter.unusedSimpArgs false
namespace Go.Proofs.YtdajaaondlekfaaGreat
open Go.RowKit
theorem qI{ws:List Int}(h:yJ ws=0):1<=ws.length/\ws.length<=8/\(∀j,j<ws.length->Mth.Fit ws j)/\Mth.off ws ws.length%8=0/\Mth.off ws ws.length<=256:=by
 unfold yJ at h;by_cases b:ws.length<1\/8<ws.length
 ·rw[if_pos b]at h;exact absurd h (by decide)
 rw[if_neg b]at h;by_cases h2:∀j,j<ws.length->Mth.Fit ws j
 ·rw[if_pos h2]at h;by_cases a:Mth.off ws ws.length%8=0/\Mth.off ws ws.length<=256
  ·exact⟨by omega,by omega,h2,a.1,a.2⟩
  ·rw[if_neg a]at h;exact absurd h (by decide)
 ·rw[if_neg h2]at h;exact absurd h (by decide)
theorem ziC(a:Option Addr)(m c:Nat)(ws:List Int)(w:World)(hw:Has .i64 w a m ws)(h:yJ ws=0):
 Calls Tryz.prog 107 #[.agg #[.slice a m c]] w fun e w'=>e=.returned (.tuple #[.int .i64 (xZ ws:Int),.agg #[.int .i64 0,.int .i64 0]])/\Below w.heap.size w w':=by
 obtain⟨g,d,hf,b,f⟩:=qI h;have i:=hw.1;rw[i]at g d hf b f;refine(zcX a m c ws w g d hw hf).mono fun e w' ⟨x,j,k,hb⟩=>⟨?_,hb⟩
 rw[j,k.1 ⟨b,f⟩];unfold xZ;rw[i]
theorem jz{h:Int}(a:h<6):zv h<2^6:=by
 unfold zv;split
 ·decide
 ·exact Nat.pow_lt_pow_right (by decide) (by omega)
theorem znT{w w':World}{q b0 c a:Nat}{v0 v1 v2 v3:Value}(h:w.cell? ⟨q,0,none⟩=some v0/\w.cell? ⟨b0,0,none⟩=some v1/\w.cell? ⟨b0,1,none⟩=some v2/\w.cell? ⟨c,a,none⟩=some v3)(b:Below w.heap.size w w'):w'.cell? ⟨q,0,none⟩=some v0/\w'.cell? ⟨b0,0,none⟩=some v1/\w'.cell? ⟨b0,1,none⟩=some v2/\w'.cell? ⟨c,a,none⟩=some v3:=
 ⟨za h.1 b,za h.2.1 b,za h.2.2.1 b,za h.2.2.2 b⟩
theorem zna{w:World}{q b0 a b B:Nat}{v0 v1 v2 v3 u0 u1:Value}(nq:q≠B)(n0:b0≠B)(c:a≠B)(h:w.cell? ⟨q,0,none⟩=some v0/\w.cell? ⟨b0,0,none⟩=some v1/\w.cell? ⟨b0,1,none⟩=some v2/\w.cell? ⟨a,b,none⟩=some v3):((w.setCell ⟨B,0,none⟩ u0).setCell ⟨B,1,none⟩ u1).cell? ⟨q,0,none⟩=some v0/\((w.setCell ⟨B,0,none⟩ u0).setCell ⟨B,1,none⟩ u1).cell? ⟨b0,0,none⟩=some v1/\((w.setCell ⟨B,0,none⟩ u0).setCell ⟨B,1,none⟩ u1).cell? ⟨b0,1,none⟩=some v2/\((w.setCell ⟨B,0,none⟩ u0).setCell ⟨B,1,none⟩ u1).cell? ⟨a,b,none⟩=some v3:=
 have k:But B w ((w.setCell ⟨B,0,none⟩ u0).setCell ⟨B,1,none⟩ u1):=set_but.trans set_but;⟨k.cell nq h.1,k.cell n0 h.2.1,k.cell n0 h.2.2.1,k.cell c h.2.2.2⟩
theorem ziD(q:Nat)(x:StateD)(s:Wk.Sets)(w:World)(i:x.head<0):
 Calls Tryz.prog 146 #[ziO q x s] w fun e w'=>e=.returned s.v/\Below w.heap.size w w':=by
 have g:Hid (∀o h f,Below w.heap.size w (((w.alloc o).alloc h).alloc f)):=fun _ _ _=>ze (ze (ze (zof _ _)))
 obtain⟨a,b,c,d,e⟩:=s;go_enter Tryz.func146,Tryz.ntmps146
 go_wp2;exact bodyPost_ret (v:=.agg #[.int .u64 (a:Int),.int .u64 (b:Int),.int .i64 (c:Int),.int .i64 (d:Int),.bool e]) (by simp[results,Tryz.results146,go_sem]) rfl ⟨rfl,g.out _ _ _⟩
structure BehAt (q : Nat) (x : StateD) (s r : Wk.Sets) (b0 b1 b2 : Nat) (w : World) : Prop where
 vis : VisB q x s b0 w
 out : Five w b1 0 Wk.zero
 own : Five w b2 0 r
 f1 : ∀ o, w.frozen? ⟨b1, o, none⟩ = false
 f2 : ∀ o, w.frozen? ⟨b2, o, none⟩ = false
 n01 : b0 ≠ b1
 n02 : b0 ≠ b2
 n12 : b1 ≠ b2
 l2 : b1 < w.heap.size /\ b2 < w.heap.size
theorem BehAt.step{q:Nat}{x:StateD}{s r:Wk.Sets}{b0 a c:Nat}{w w':World}(h:BehAt q x s r b0 a c w)(b:Below w.heap.size w w'):BehAt q x s r b0 a c w':=
 ⟨h.vis.step b,h.out.step b,h.own.step b,fun o=>(b.frozen (p:=⟨a,o,none⟩) h.l2.1).trans (h.f1 o),fun o=>(b.frozen (p:=⟨c,o,none⟩) h.l2.2).trans (h.f2 o),h.n01,h.n02,h.n12,zom h.l2.1 b.size,zom h.l2.2 b.size⟩
theorem zl5(q:Nat)(x:StateD)(s:Wk.Sets)(w:World):BehAt q x s s w.heap.size (w.heap.size+1) (w.heap.size+1+1) (((w.alloc (zkZ q x s)).alloc (.cells #[.int .u64 0,.int .u64 0,.int .i64 0,.int .i64 0,.bool false] 157)).alloc (.cells #[.int .u64 (s.must:Int),.int .u64 (s.may:Int),.int .i64 (s.least:Int),.int .i64 (s.most:Int),.bool s.there] 157)):=by
 refine⟨(zc8 q x s w).step (ze (ze (zof _ _))),⟨?_,?_,?_,?_,?_⟩,⟨?_,?_,?_,?_,?_⟩,fun o=>?_,fun o=>?_,by omega,by omega,by omega,by simp⟩
 ·exact(zoe _ _ _ (by simp)).trans ((zod _ _ _ _ (by simp)).trans rfl)
 ·exact(zoe _ _ _ (by simp)).trans ((zod _ _ _ _ (by simp)).trans rfl)
 ·exact(zoe _ _ _ (by simp)).trans ((zod _ _ _ _ (by simp)).trans rfl)
 ·exact(zoe _ _ _ (by simp)).trans ((zod _ _ _ _ (by simp)).trans rfl)
 ·exact(zoe _ _ _ (by simp)).trans ((zod _ _ _ _ (by simp)).trans rfl)
 ·exact(zod _ _ _ _ (by simp)).trans rfl
 ·exact(zod _ _ _ _ (by simp)).trans rfl
 ·exact(zod _ _ _ _ (by simp)).trans rfl
 ·exact(zod _ _ _ _ (by simp)).trans rfl
 ·exact(zod _ _ _ _ (by simp)).trans rfl
 ·exact(World.frozen?_alloc_past _ _ _ (by simp)).trans (zoB _ _ _ _ (by simp))
 ·exact zoB _ _ _ _ (by simp)
theorem zgl(q:Nat)(x:StateD)(s:Wk.Sets)(w:World)(hs:s.few)(I:0<=x.head/\x.head<6){ha:Option Addr}{M O C j:Nat}{hd:HeadD}(T:w.cell? ⟨q,0,none⟩=some (.slice ha M O))(hx:x.head<(M:Int))(ea:ha=some ⟨C,j,none⟩)(k:hd.lie w C (j+x.head.toNat))(K:yJ hd.ws=0):
 Calls Tryz.prog 146 #[ziO q x s] w fun e w'=>e=.returned (Wk.shiftS (zv x.head) (xZ hd.ws) s).v/\Below w.heap.size w w':=by
 subst ea;obtain⟨b,hW⟩:∃b,b=(((w.alloc (zkZ q x s)).alloc (.cells #[.int .u64 0,.int .u64 0,.int .i64 0,.int .i64 0,.bool false] 157)).alloc (.cells #[.int .u64 (s.must:Int),.int .u64 (s.may:Int),.int .i64 (s.least:Int),.int .i64 (s.most:Int),.bool s.there] 157)):=⟨_,rfl⟩;obtain⟨b0,e0⟩:∃b0,b0=w.heap.size:=⟨_,rfl⟩;obtain⟨D,e1⟩:∃D,D=w.heap.size+1:=⟨_,rfl⟩;obtain⟨B,e2⟩:∃B,B=w.heap.size+1+1:=⟨_,rfl⟩;have u:Hid (BehAt q x s s b0 D B b):=by rw[hW,e0,e1,e2];exact zl5 q x s w
 have l:Hid (Below w.heap.size w b):=by rw[hW];exact ze (ze (ze (zof _ _)))
 have y:w.heap.size<=D:=by omega
 have G:w.heap.size<=B:=by omega
 have z0:=za T l.out;have z1:=u.out.vis.c0;have P:=u.out.vis.c1;have Q:=za k.1.1 l.out;have N:Hid (∀w',Below b.heap.size b w'->Calls Tryz.prog 107 #[.agg #[.slice hd.w.a hd.w.n hd.w.c]] w' fun e t=>e=.returned (.tuple #[.int .i64 (xZ hd.ws:Int),.agg #[.int .i64 0,.int .i64 0]])/\Below w'.heap.size w' t):=fun w' h=>ziC _ _ _ _ w' (k.2.step (zh l.out h)) K
 have J:Hid (∀w',Calls Tryz.prog 185 #[.int .i64 x.head] w' fun e t=>e=.returned (.int .u64 (zv x.head))/\t=w'):=fun w'=>zc7 x.head I.2 w'
 have L:¬x.head<0:=by omega
 have h0:0<=x.head:=I.1;have m:=jz I.2;have o1:=zbt s.must (zv x.head) (xm hs.mu) (xm m);have o2:=zbt s.may (zv x.head) (xm hs.ma) (xm m);have a9:xZ hd.ws<=32:=by obtain⟨_,_,_,_,h⟩:=qI K;unfold xZ;omega
 have a4:=hs.le;have a3:=hs.mo;have W:=hid hW;have R:=hid e0;have U:=hid e1;have S:=hid e2;clear hW e0 e1 e2 K k T hs m I;generalize xZ hd.ws=Z at*;go_enter Tryz.func146,Tryz.ntmps146
 go_wp2_with fail
 rw[<-W.out,<-S.out,<-U.out,<-R.out];clear W R U S;have f:=hid (zof b.heap.size b).drew;have i:Hid (∀o,Below b.heap.size b (b.alloc o).drew):=fun o=>(ze (zof _ _)).drew
 have H:Hid (∀g,Below ((b.alloc (.cells #[.int .i64 0,.int .i64 0] 34)).drew).heap.size ((b.alloc (.cells #[.int .i64 0,.int .i64 0] 34)).drew) g->g.cell? ⟨b.heap.size,0,none⟩=some (.int .i64 0)/\g.cell? ⟨b.heap.size,1,none⟩=some (.int .i64 0)/\g.frozen? ⟨b.heap.size,0,none⟩=false/\g.frozen? ⟨b.heap.size,1,none⟩=false):=fun g h=>by
  have k:b.heap.size<((b.alloc (.cells #[.int .i64 0,.int .i64 0] 34)).drew).heap.size:=by simp
  exact⟨(h.cell (p:=⟨b.heap.size,0,none⟩) k).trans ((zod _ _ _ _ rfl).trans rfl),(h.cell (p:=⟨b.heap.size,1,none⟩) k).trans ((zod _ _ _ _ rfl).trans rfl),(h.frozen (p:=⟨b.heap.size,0,none⟩) k).trans (zoB _ _ _ _ rfl),(h.frozen (p:=⟨b.heap.size,1,none⟩) k).trans (zoB _ _ _ _ rfl)⟩
 have E:w.heap.size<=b.heap.size:=l.out.size;have nq:q≠b.heap.size:=Nat.ne_of_lt (zog b _ z0);have n0:b0≠b.heap.size:=Nat.ne_of_lt (zog b _ P);have V:C≠b.heap.size:=Nat.ne_of_lt (zog b _ Q);have m1:¬D=b.heap.size:=by have:=u.out.l2.1;omega
 have m2:¬B=b.heap.size:=by have:=u.out.l2.2;omega
 go_region_held3 (fun w'=>w'.cell? ⟨q,0,none⟩=some (.slice (some ⟨C,j,none⟩) M O)/\w'.cell? ⟨b0,0,none⟩=some (.pointer (some ⟨q,0,none⟩))/\w'.cell? ⟨b0,1,none⟩=some (.int .i64 x.head)/\w'.cell? ⟨C,j+x.head.toNat,none⟩=some (.slice hd.w.a hd.w.n hd.w.c))
  (first
   |(go_split_ands;with_reducible exact znT ⟨by assumption,by assumption,by assumption,by assumption⟩ d)
   |(go_split_ands;with_reducible exact zna nq n0 V ⟨by assumption,by assumption,by assumption,by assumption⟩)
   |go_keep)
  (first
   |(go_at_call 107;(with_reducible refine(N.out _ f.out).mono ?_);rintro e g ⟨rfl,d⟩;have r:=hid (u.out.step (zh f.out d));have F:=hid (zh l.out (zh f.out d));have A:b.heap.size<=g.heap.size:=(zh f.out d).size)
   |(go_at_call 107;(with_reducible refine(N.out _ (i.out _)).mono ?_);rintro e g ⟨rfl,d⟩;have r:=hid (u.out.step (zh (i.out _) d));have F:=hid (zh l.out (zh (i.out _) d));obtain⟨y0,y1,Y,a1⟩:=H.out _ d;have A:b.heap.size<=g.heap.size:=(zh (i.out _) d).size))
 all_goals
  obtain⟨⟨_,v1,_,_,_,_,_,_,_,_,_⟩,⟨g0,g1,g2,g3,g4⟩,⟨p0,p1,X,p3,p4⟩,f1,f2,n01,n02,n12,l1,l2⟩:=r.out;clear N f i H u r z0 z1 P Q d l A;have a8:=f1 0;have a6:=f1 1;have a0:=f1 2;have b3:=f1 3;have a5:=f1 4;have a7:=f2 0;have b4:=f2 1;have a2:=f2 2;have b5:=f2 3;simp only[zoK]at g0 g1 g2 g3 g4 p0 p1 X p3 p4;have H1:=hid y;have H2:=hid G;have H3:=hid E;have l0:b0<g.heap.size:=zog g _ v1;clear f1 f2 h0 L hx y G E nq V;go_wp2_with fail
  go_region_with (go_at_call 185;refine(J.out _).mono ?_;rintro e wy ⟨rfl,rfl⟩)
  all_goals
   go_wp2_with fail
   go_region_with (go_at_call 185;refine(J.out _).mono ?_;rintro e wy ⟨rfl,rfl⟩)
   all_goals
    clear J;go_wp2;exact bodyPost_ret (v:=.agg #[.int .u64 ((s.must|||zv x.head:Nat):Int),.int .u64 ((s.may|||zv x.head:Nat):Int),.int .i64 ((s.least:Int)+(Z:Int)),.int .i64 ((s.most:Int)+(Z:Int)),.bool s.there]) (by simp[results,Tryz.results146,go_sem, *]) rfl ⟨rfl,by
     (repeat (first|(with_reducible exact F.out)|(with_reducible refine ze ?_)|(with_reducible refine Below.drew ?_)|(with_reducible refine zoV ?_ H1.out _)|(with_reducible refine zoV ?_ H2.out _)|(with_reducible refine zoV ?_ H3.out _)))⟩
end Go.Proofs.YtdajaaondlekfaaGreat
