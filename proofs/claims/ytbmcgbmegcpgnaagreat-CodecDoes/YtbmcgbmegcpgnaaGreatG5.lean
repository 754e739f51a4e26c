import Derived.Test.YtbmcgbmegcpgnaaGreatG3
import Derived.Test.YtbmcgbmegcpgnaaGreatVBase
import Derived.Laws.IdiomStrings
import Derived.Deep.RegionLaw
import Derived.Laws.AppendOwnNone
import Derived.Test.YtbmcgbmegcpgnaaGreatG1
import Derived.WalkKit
import Derived.WalkSpells
import Derived.WalkLawsBesides
import Derived.Test.YtbmcgbmegcpgnaaGreatG0
import Derived.Laws.ShiftsVarLaws
import Derived.Laws.BitsAllLaws
import Derived.Laws.DeepNot64
import Derived.Test.YtbmcgbmegcpgnaaGreatVQPure
import Derived.Test.YtbmcgbmegcpgnaaGreatG4
import Derived.Deep.RegionHeld3
set_option maxHeartbeats 4000000
set_option maxRecDepth 20000
set_option linter.unusedSimpArgs false
namespace Go.Proofs.YtbmcgbmegcpgnaaGreat
open Go.RowKit
theorem bl2{w w':World}{a:Option Addr}{m c:Nat}(h:Below ((w.alloc (H0 a m c)).alloc F0).heap.size ((w.alloc (H0 a m c)).alloc F0) w'):Below (w.heap.size+2) ((w.alloc (H0 a m c)).alloc F0) w':=by
 simpa using h
theorem zgh(a:Option Addr)(m c:Nat)(w:World)(h:(m:Int)<1\/8<(m:Int)):
 Calls Tryz.prog 22 #[HD a m c] w fun e w'=>e=.returned (.tuple #[.int .i64 0,.agg #[.int .i64 2,.int .i64 (-1)]])/\Below w.heap.size w w':=by
 by_cases f:(m:Int)<1
 ·go_enter Tryz.func22,Tryz.ntmps22
  go_wp2_with fail
  refine(zA _ _ _).mono ?_;rintro e b ⟨rfl,hb⟩;obtain⟨c0,c1,c2,f1,f2,hs⟩:=kE (bl2 hb);go_wp2;exact bodyPost_ret (v:=.tuple #[.int .i64 0,.agg #[.int .i64 2,.int .i64 (-1)]]) (by simp[results,Tryz.results22,go_sem,c1,c2]) rfl ⟨rfl,qj (bl2 hb) _ _⟩
 ·have d:8<(m:Int):=by omega
  go_enter Tryz.func22,Tryz.ntmps22
  go_wp2_with fail
  refine(zA _ _ _).mono ?_;rintro e b ⟨rfl,hb⟩;obtain⟨c0,c1,c2,f1,f2,hs⟩:=kE (bl2 hb);go_wp2;exact bodyPost_ret (v:=.tuple #[.int .i64 0,.agg #[.int .i64 2,.int .i64 (-1)]]) (by simp[results,Tryz.results22,go_sem,c1,c2]) rfl ⟨rfl,qj (bl2 hb) _ _⟩
theorem zfh(a:Option Addr)(m c i:Nat)(ws:List Int)(w:World)(C:1<=m)(E:m<=8)(hw:Has .i64 w a m ws)(hi:i<m)(b:∀j,j<i->Mth.Fit ws j)(f:¬Mth.Fit ws i):
 Calls Tryz.prog 22 #[HD a m c] w fun e w'=>e=.returned (.tuple #[.int .i64 0,.agg #[.int .i64 6,.int .i64 i]])/\Below w.heap.size w w':=by
 have r:=hid b;clear b;obtain⟨p,o,rfl,l,d⟩:=(hw.alloc (o:=H0 a m c)).alloc (o:=F0) |>.some (by omega)
 have y:=hid d;clear d hw l;go_enter Tryz.func22,Tryz.ntmps22
 go_wp2;go_loop [4,5] (fun t q=>∃k:Nat,k<=i/\q=.int .i64 k/\t=.int .i64 (Mth.off ws k)) (fun _ q=>m-(intOf q).toNat)
 case atStart=>exact⟨0,zon _,rfl,rfl⟩
 case round=>
  obtain⟨k,F,rfl,rfl⟩:=hrel;have h:=y.out k (by omega)
  have D:=Mth.fit_off ws k (fun j B=>r.out j (by omega))
  by_cases n:k=i
  ·subst n;unfold Mth.Fit at f;simp only[zoi]at f h;generalize ws[k]?.getD 0=x at*;by_cases G:x<1
   ·go_wp2_with fail
    refine(zA _ _ _).mono ?_;rintro e A ⟨rfl,hb⟩;obtain⟨c0,c1,c2,f1,f2,hs⟩:=kE (bl2 hb);go_wp2;exact bodyPost_ret (v:=.tuple #[.int .i64 0,.agg #[.int .i64 6,.int .i64 k]]) (by simp[results,Tryz.results22,go_sem,c1,c2]) rfl ⟨rfl,qj (bl2 hb) _ _⟩
   ·have u:48<x:=by omega
    clear f;go_wp2_with fail
    refine(zA _ _ _).mono ?_;rintro e A ⟨rfl,hb⟩;obtain⟨c0,c1,c2,f1,f2,hs⟩:=kE (bl2 hb);go_wp2;exact bodyPost_ret (v:=.tuple #[.int .i64 0,.agg #[.int .i64 6,.int .i64 k]]) (by simp[results,Tryz.results22,go_sem,c1,c2]) rfl ⟨rfl,qj (bl2 hb) _ _⟩
  ·have s:=r.out k (by omega)
   unfold Mth.Fit at s;have g:Hid (Mth.off ws (k+1)=Mth.off ws k+(ws.getD k 0).toNat):=rfl;simp only[zoi]at s h g;generalize ws[k]?.getD 0=x at*;go_wp2;go_round
   case rel=>exact⟨k+1,by omega,by go_num,zhs (by rw[g.out];omega)⟩
   case measure=>simp[intOf];omega
theorem zdH(a:Option Addr)(m c:Nat)(ws:List Int)(w:World)(H:1<=m)(I:m<=8)(hw:Has .i64 w a m ws)(b:∀j,j<m->Mth.Fit ws j):
 Calls Tryz.prog 22 #[HD a m c] w fun e w'=>∃x,e=.returned x/\zbp (Mth.off ws m) x/\Below w.heap.size w w':=by
 have u:=hid b;clear b;obtain⟨p,o,rfl,r,d⟩:=(hw.alloc (o:=H0 a m c)).alloc (o:=F0) |>.some (by omega)
 have D:=hid d;clear d hw r;go_enter Tryz.func22,Tryz.ntmps22
 go_wp2;go_loop [4,5] (fun t q=>∃k:Nat,k<=m/\q=.int .i64 k/\t=.int .i64 (Mth.off ws k)) (fun _ q=>m-(intOf q).toNat)
 case atStart=>exact⟨0,zon _,rfl,rfl⟩
 case round=>
  obtain⟨k,F,rfl,rfl⟩:=hrel;have J:=Mth.fit_off ws k (fun j E=>u.out j (by omega))
  by_cases A:k<m
  ·have y:=u.out k (by omega)
   have n:=D.out k (by omega)
   unfold Mth.Fit at y;have f:Hid (Mth.off ws (k+1)=Mth.off ws k+(ws.getD k 0).toNat):=rfl;simp only[zoi]at y n f;generalize ws[k]?.getD 0=x at*;go_wp2;go_round
   case rel=>exact⟨k+1,by omega,by go_num,zhs (by rw[f.out];omega)⟩
   case measure=>simp[intOf];omega
  ·have C:k=m:=by omega
   subst C;generalize g:Mth.off ws k=N at*;have i:=hid g;clear g;have h:(N:Int).tmod 8=((N%8:Nat):Int):=rfl;by_cases s:N%8=0
   ·have l:((N:Int).tmod 8 !=0)=false:=by rw[h,s];rfl
    by_cases G:(256:Int)<(N:Int)
    ·clear h;go_wp2_with fail
     refine(zA _ _ _).mono ?_;rintro e B ⟨rfl,hb⟩;obtain⟨c0,c1,c2,f1,f2,hs⟩:=kE (bl2 hb);go_wp2;exact bodyPost_ret (v:=.tuple #[.int .i64 0,.agg #[.int .i64 6,.int .i64 (-1)]]) (by simp[results,Tryz.results22,go_sem,c1,c2]) rfl ⟨_,rfl,by rw[i.out];exact zbq N (by omega),qj (bl2 hb) _ _⟩
    ·clear h;go_wp2;exact bodyPost_ret (v:=.tuple #[.int .i64 ((N/8:Nat):Int),.agg #[.int .i64 0,.int .i64 0]]) (by simp[results,Tryz.results22,go_sem]) rfl ⟨_,rfl,by rw[i.out];exact zdG N s (by omega),ze (ze (zof _ _))⟩
   ·have l:((N:Int).tmod 8 !=0)=true:=by rw[h,bne_iff_ne];omega
    clear h;go_wp2_with fail
    refine(zA _ _ _).mono ?_;rintro e B ⟨rfl,hb⟩;obtain⟨c0,c1,c2,f1,f2,hs⟩:=kE (bl2 hb);go_wp2;exact bodyPost_ret (v:=.tuple #[.int .i64 0,.agg #[.int .i64 6,.int .i64 (-1)]]) (by simp[results,Tryz.results22,go_sem,c1,c2]) rfl ⟨_,rfl,by rw[i.out];exact zbq N (by omega),qj (bl2 hb) _ _⟩
def str(zs:List Int):ByteArray:=⟨(zs.map fun n=>UInt8.ofNat n.toNat).toArray⟩
theorem zcW{w:World}{a:Option Addr}{len:Nat}{zs:List Int}(cap:Nat)(h:Has .u8 w a len zs):(convert 30 9 (.slice a len cap)).run Tryz.prog w=.ok (.string (str zs)) w:=by
 have hb:=h.bytes;rcases h.2.2 with g|⟨b,off,rfl,i,f⟩
 ·subst g;have c:len=0:=by have:=h.1;simpa using this.symm
  subst c;rw[run_convert_bytes_string w 30 9 5 a 0 cap Tryz.underlying30 Tryz.underlying5 Tryz.underlying9];cases a
  ·rfl
  ·rfl
 ·have c:=h.1;have e:len=(zs.map fun n=>UInt8.ofNat n.toNat).length:=by simp[c]
  conv=>lhs;rw[e]
  rw[run_convert_bytes_back w 30 9 5 ⟨b,off,none⟩ cap (zs.map fun n=>UInt8.ofNat n.toNat) Tryz.underlying30 Tryz.underlying5 Tryz.underlying9]
  ·rfl
  ·intro j d;simp only[zoE]at d;rw[Addr.add_lit,f j (by omega)]
   have:=hb j;simp only[zoi,zoh d,zoC]at this ⊢;simp only[List.getElem_map];congr 2
   simp only[UInt8.toNat_ofNat'];omega
theorem zgf{w:World}{a b:Option Addr}{len:Nat}{zs:List Int}(c d:Nat)(ha:Has .u8 w a len zs)(hb:Has .u8 w b len zs):
 Calls Tryz.prog 12 #[.slice a len c,.slice b len d] w fun e w'=>e=.returned (.bool true)/\w'=w:=by
 have f:=zcW c ha;have g:=zcW d hb;clear ha hb;go_enter Tryz.func12,Tryz.ntmps12
 go_wp2;go_ret;exact⟨rfl,rfl⟩
theorem Has.put{k:IntKind}{w:World}{a:Option Addr}{len:Nat}{zs:List Int}(h:Has k w a len zs)(f:k≠.i64){p:Addr}{x:Int}(g:w.cell? p=.some (.int .i64 x))(v:Value):Has k (w.setCell p v) a len zs:=by
 refine⟨h.1,h.2.1,?_⟩;rcases h.2.2 with h|⟨b,off,rfl,c,d⟩
 ·exact .inl h
 ·refine .inr ⟨b,off,rfl,by simpa[World.setCell]using c,fun i hi=>?_⟩
  rw[zou]
  ·exact d i hi
  ·intro e;have:=d i hi;rw[<-e,g]at this;simp only[zoo,Value.int.injEq]at this;exact f this.1.symm
@[reducible] def zq9(a b:Int):Value:=.iface 129 (.agg #[.int .i64 a,.int .i64 b])
theorem zqS(a b:Int)(w:World):Calls Tryz.prog 74 #[.int .i64 a,.int .i64 b] w fun e w'=>e=.panicked [{v:=zq9 a b,recovered:=false}]/\w'=w:=by
 go_enter Tryz.func74,Tryz.ntmps74
 go_wp2;simp[bodyPost]
theorem yl{P:Program}{fn:Func}{R:Ending->World->Prop}{a:Act}{w:World}{l:List PanicEntry}(h:R (.panicked l) w)(b:a.defers=[]):bodyPost P fn R (.panic l) a w:=by simpa[bodyPost,b]using h
structure Rd (p : Nat) (a : Option Addr) (c : Nat) (zs : List Int) (t : Nat) (w : World) : Prop where
 c0 : w.cell? ⟨p, 0, none⟩ = some (.slice a zs.length c)
 c1 : w.cell? ⟨p, 1, none⟩ = some (.int .i64 (t : Int))
 fz : w.frozen? ⟨p, 1, none⟩ = false
 hz : Has .u8 w a zs.length zs
 le : t <= zs.length
 few : zs.length <= 100000
 lo : ∀ ad, a = some ad -> ad.block < p
structure Rn (p : Nat) (w w' : World) : Prop where
 os : w'.os = w.os
 tape : w'.tape = w.tape
 output : w'.output = w.output
 size : w.heap.size <= w'.heap.size
 block : ∀ k, k < w.heap.size -> k ≠ p -> w'.heap[k]? = w.heap[k]?
theorem Rn.refl(p:Nat)(w:World):Rn p w w:=⟨rfl,rfl,rfl,zos _,fun _ _ _=>rfl⟩
theorem Rn.trans{p:Nat}{a b c:World}(h:Rn p a b)(k:Rn p b c):Rn p a c:=⟨k.os.trans h.os,k.tape.trans h.tape,k.output.trans h.output,zoz h.size k.size,fun i hi d=>(k.block i (zom hi h.size) d).trans (h.block i hi d)⟩
theorem Rn.of{p:Nat}{w w':World}(h:Below w.heap.size w w'):Rn p w w':=⟨h.os,h.tape,h.output,h.size,fun k a _=>h.block k a⟩
theorem Rn.put{p:Nat}{w w':World}(h:Rn p w w')(o:Nat)(v:Value):Rn p w (w'.setCell ⟨p,o,none⟩ v):=h.trans ⟨rfl,rfl,rfl,by simp[World.setCell],fun k _ a=>zop _ _ _ _ a⟩
theorem Rn.low{p B:Nat}{w w':World}(h:Rn p w w')(b:B<=p)(c:B<=w.heap.size):Below B w w':=⟨h.os,h.tape,h.output,h.size,fun k a=>h.block k (by omega) (by omega)⟩
theorem Rd.step{p:Nat}{a:Option Addr}{c:Nat}{zs:List Int}{t:Nat}{w w':World}(h:Rd p a c zs t w)(b:Below w.heap.size w w'):Rd p a c zs t w':=
 ⟨za h.c0 b,za h.c1 b,(b.frozen (p:=⟨p,1,none⟩) (zog _ _ h.c1)).trans h.fz,h.hz.step b,h.le,h.few,h.lo⟩
theorem Rd.put{p:Nat}{a:Option Addr}{c:Nat}{zs:List Int}{t:Nat}{w:World}(h:Rd p a c zs t w){u:Nat}(b:u<=zs.length):Rd p a c zs u (w.setCell ⟨p,1,none⟩ (.int .i64 (u:Int))):=
 ⟨(zou _ _ _ _ (by intro e;simp only[Addr.mk.injEq]at e;omega)).trans h.c0,zot _ _ _ h.c1,(World.frozen?_setCell _ _ _ _).trans h.fz,h.hz.put (by decide) h.c1 _,b,h.few,h.lo⟩
def ka{α :Type}(p:Nat)(a:Option Addr)(c:Nat)(zs:List Int)(V: α->World->Value->Prop)(r:Except (Int × Int) (α × Nat))(w:World)(e:Ending)(w':World):Prop:=
 Rn p w w'/\match r with
 |.ok (x,u)=>∃v,e=.returned v/\V x w' v/\Rd p a c zs u w'
 |.error (code,at_)=>e=.panicked [{v:=zq9 code at_,recovered:=false}]
def zqr(zs:List Int)(t:Nat):Except (Int × Int) (Int × Nat):=match zs[t]? with
 |some b=>.ok (b,t+1)
 |none=>.error (3,(zs.length:Int))
theorem zvi{p:Nat}{a:Option Addr}{c:Nat}{zs:List Int}{t:Nat}{w:World}(h:Rd p a c zs t w):
 Calls Tryz.prog 161 #[.pointer (some ⟨p,0,none⟩)] w (ka p a c zs (fun x _ v=>v=.int .u8 x) (zqr zs t) w):=by
 have c0:=h.c0;have c1:=h.c1;have fz:=h.fz;have f:p<w.heap.size:=zog _ _ c0;have C:=hid h;by_cases m:t=zs.length
 ·have q:Hid (zqr zs t=.error (3,(zs.length:Int))):=by show _=_;unfold zqr;rw[m,List.getElem?_eq_none (zos _)]
  have K:=hid (fun w=>zqS 3 (zs.length:Int) w)
  rw[m]at c1;clear h m;go_enter Tryz.func161,Tryz.ntmps161
  go_wp2;go_quiet (fail)
  have d:Below w.heap.size w (w.drewN nq):=⟨rfl,rfl,rfl,zos _,fun _ _=>rfl⟩
  have D:=za c0 d;have n:=hid d;clear c0 c1 fz f C d;generalize w.drewN nq=w1 at*;go_wp2_with fail
  refine(K.out _).mono ?_;rintro e w2 ⟨rfl,rfl⟩;exact yl (by rw[q.out];exact⟨Rn.of n.out,rfl⟩) rfl
 ·have i:t<zs.length:=by have:=h.le;omega
  have J:(t:Int)<(zs.length:Int):=by omega
  have k:¬(t:Int)=(zs.length:Int):=by omega
  have A:((t:Int)==(zs.length:Int))=false:=by simpa using k
  obtain⟨b,hb⟩:∃b,zs[t]?=some b:=⟨_,zoh i⟩;have q:Hid (zqr zs t=.ok (b,t+1)):=by show _=_;unfold zqr;rw[hb]
  obtain⟨g,o,rfl,B,l⟩:=h.hz.some (by omega)
  have s:=l t i;rw[zoi,hb,zoC]at s;clear hb;have E:=h.few;clear h m;go_enter Tryz.func161,Tryz.ntmps161
  go_wp2;go_quiet (fail)
  have d:Below w.heap.size w (w.drewN nq):=⟨rfl,rfl,rfl,zos _,fun _ _=>rfl⟩
  have F:=hid (C.out.step d);have n:=hid d;have D:=za c0 d;have I:=za c1 d;have G:=za s d;clear c0 c1 fz f C d l s B A k;generalize w.drewN nq=w1 at*;clear nq;go_wp2;go_quiet (fail)
  have y:Below w1.heap.size w1 (w1.drewN nq):=⟨rfl,rfl,rfl,zos _,fun _ _=>rfl⟩
  have r:=hid (F.out.step y);have j:=hid (zh n.out y);have q1:=r.out.c1;have q2:=r.out.fz;clear D I G y F n;generalize w1.drewN nq=w2 at*;have f:p<w2.heap.size:=zog _ _ q1;have hw:IntKind.i64.wrap ((t:Int)+1)=((t+1:Nat):Int):=by rw[zX _ (by omega) (by omega)];omega
  have H:Hid (ka p (some ⟨g,o,none⟩) c zs (fun x _ v=>v=.int .u8 x) (zqr zs t) w (.returned (.int .u8 b)) (w2.setCell ⟨p,1,none⟩ (.int .i64 ((t+1:Nat):Int)))):=by
   show ka _ _ _ _ _ _ _ _ _;rw[q.out];exact⟨(Rn.of j.out).put 1 _,_,rfl,rfl,r.out.put i⟩
  generalize t+1=u at*;clear r j q;go_wp2;go_ret;exact H.out
def zpM(zs:List Int):Nat->Nat->Nat->Nat->Except (Int × Int) (Nat × Nat)
 |0,_,_,_=>.error (1,0)
 |f+1,i,t,acc=>match zs[t]? with
  |none=>.error (3,(zs.length:Int))
  |some b=>if(i=9/\1<b)\/(0<i/\b=0)then .error (1,(t:Int))else if b<128 then .ok (acc+b.toNat*2^(7*i),t+1)else zpM zs f (i+1) (t+1) (acc+(b.toNat-128)*2^(7*i))
def zpf(zs:List Int)(t:Nat):Except (Int × Int) (Nat × Nat):=zpM zs 10 0 t 0
theorem zuy(acc x k:Nat)(h:acc<2^k):acc|||(x*2^k)=acc+x*2^k:=by
 rw[Nat.or_comm,Nat.mul_comm x,<-Nat.two_pow_add_eq_or_of_lt h];omega
theorem zsT(acc k:Nat)(b:Int)(e:0<=b)(l:b<256)(ha:acc<2^k)(c:k<=56\/(k=63/\b<=1)):
 bits .or .u64 (acc:Int) (IntKind.u64.wrap (IntKind.u64.wrap (bits .and .u8 b 127)*2^k))=((acc+b.toNat%128*2^k:Nat):Int)/\acc+b.toNat%128*2^k<18446744073709551616:=by
 obtain⟨y,rfl⟩:=Int.eq_ofNat_of_zero_le e;have j:y<256:=by omega
 have g:bits .and .u8 (y:Int) 127=((y%128:Nat):Int):=by
  have:=u8_and (y:Int) 127 (by omega) (by omega) (by decide) (by decide)
  rw[this,zov];show((y&&& 127:Nat):Int)=_;rw[show(127:Nat)=2^7-1 from rfl,Nat.and_two_pow_sub_one_eq_mod]
 have hb:y%128*2^k+2^k<=18446744073709551616:=by
  rcases c with c|⟨rfl,c⟩
  ·have f:(2:Nat)^k<=2^56:=Nat.pow_le_pow_right (by decide) c
   have a:(y%128+1)*2^k<=128*2^56:=Nat.mul_le_mul (by omega) f
   rw[Nat.add_mul,Nat.one_mul]at a;exact zoz a (by decide)
  ·have:y<=1:=by omega
   have a:(y%128+1)*2^63<=2*2^63:=Nat.mul_le_mul (by omega) (zos _)
   rw[Nat.add_mul,Nat.one_mul]at a;exact zoz a (by decide)
 have d:y%128*2^k<18446744073709551616:=by have:0<2^k:=Nat.two_pow_pos k;omega
 rw[zov];refine⟨?_,by omega⟩
 rw[g];have i:IntKind.u64.wrap ((y%128:Nat):Int)=((y%128:Nat):Int):=by rw[IntKind.wrap_u64];omega
 have h:IntKind.u64.wrap (((y%128:Nat):Int)*2^k)=((y%128*2^k:Nat):Int):=by
  have:(((y%128:Nat):Int)*2^k)=((y%128*2^k:Nat):Int):=by rw[Int.natCast_mul,Int.natCast_pow];rfl
  rw[this,IntKind.wrap_u64];omega
 rw[i,h,u64_or_nat _ _ (by omega) d,zuy _ _ _ ha]
theorem ztY{p:Nat}{a:Option Addr}{c:Nat}{zs:List Int}{l:Nat}{w:World}(h:Rd p a c zs l w):
 Calls Tryz.prog 146 #[.pointer (some ⟨p,0,none⟩)] w (ka p a c zs (fun(x:Nat) _ v=>v=.int .u64 (x:Int)/\x<18446744073709551616) (zpf zs l) w):=by
 have C:=hid h;have s:=hid h.hz.bytes;clear h;go_enter Tryz.func146,Tryz.ntmps146
 go_wp2;go_loopw [3,4,5,6] (fun n pl _ _ wr=>∃(i t acc k:Nat),n=.int .u64 (acc:Int)/\pl=.int .i64 (k:Int)/\Hid (k=7*i)/\Hid (i<=9)/\Hid (acc<2^k)/\Hid (Rd p a c zs t wr)/\Hid (Rn p w wr)/\Hid (zpM zs (10-i) i t acc=zpf zs l)) (fun _ pl _ _ _=>70-(intOf pl).toNat)
 case atStart=>exact⟨0,l,0,0,rfl,rfl,rfl,zon _,Nat.zero_lt_one,C,Rn.refl _ _,rfl⟩
 case round=>
  obtain⟨i,t,acc,k,rfl,rfl,q,r,Q,C,J,G⟩:=hrel;have c1:=C.out.c1;have N:=hid (zvi C.out);go_wp2_with fail
  refine N.out.mono ?_;rintro e W ⟨o,F⟩;cases hb:zs[t]? with
  |none=>
   have E:zqr zs t=.error (3,(zs.length:Int)):=by unfold zqr;rw[hb]
   have L:zpf zs l=.error (3,(zs.length:Int)):=by rw[<-G.out,show 10-i=(9-i)+1 by have:=r.out;omega];unfold zpM;rw[hb]
   rw[E]at F;obtain rfl:=F;exact yl (P:=Tryz.prog) (fn:=Tryz.f146) (by rw[L];exact⟨J.out.trans o,rfl⟩) rfl
  |some b=>
   have E:zqr zs t=.ok (b,t+1):=by unfold zqr;rw[hb]
   rw[E]at F;obtain⟨_,rfl,rfl,A⟩:=F;have B:0<=b/\b<256:=by have:=s.out t;rw[zoi,hb,zoC]at this;exact this
   have hF:=G.out;rw[show 10-i=(9-i)+1 by have:=r.out;omega]at hF
   unfold zpM at hF;rw[hb]at hF;dsimp only at hF;have D:Hid ((i=9/\1<b)\/(0<i/\b=0)->zpf zs l=.error (1,(t:Int))):=fun h=>by rw[if_pos h]at hF;exact hF.symm
   have j:Hid (¬((i=9/\1<b)\/(0<i/\b=0))->b<128->zpf zs l=.ok (acc+b.toNat%128*2^k,t+1)):=fun h H=>by
    rw[if_neg h,if_pos H]at hF;rw[q.out,Nat.mod_eq_of_lt (by omega)]
    exact hF.symm
   have I:Hid (¬((i=9/\1<b)\/(0<i/\b=0))->¬b<128->zpM zs (10-(i+1)) (i+1) (t+1) (acc+b.toNat%128*2^k)=zpf zs l):=fun h H=>by
    rw[if_neg h,if_neg H]at hF;rw[q.out,show b.toNat%128=b.toNat-128 by omega,show 10-(i+1)=9-i by omega]
    exact hF
   have g:=hid A;have f:=hid (J.out.trans o);have O:=hid B;have R:=hid (fun w=>zqS 1 (t:Int) w)
   clear N c1 hF A o G J hb E B C s;have d:Hid (¬((i=9/\1<b)\/(0<i/\b=0))->bits .or .u64 (acc:Int) (IntKind.u64.wrap (IntKind.u64.wrap (bits .and .u8 b 127)*2^k))=((acc+b.toNat%128*2^k:Nat):Int)/\acc+b.toNat%128*2^k<18446744073709551616):=fun h=>zsT acc k b O.out.1 O.out.2 Q.out (by have:=q.out;have:=r.out;omega)
   have M:Hid (acc+b.toNat%128*2^k<2^(k+7)):=by
    have K:=Q.out;have V:(b.toNat%128+1)*2^k<=128*2^k:=Nat.mul_le_mul (by omega) (zos _)
    rw[Nat.add_mul,Nat.one_mul]at V;rw[Hid,Nat.pow_add];omega
   have y:Hid (k=63->¬((i=9/\1<b)\/(0<i/\b=0))->bits .or .u64 (acc:Int) (IntKind.u64.wrap (IntKind.u64.wrap (bits .and .u8 b 127)*9223372036854775808))=((acc+b.toNat%128*2^k:Nat):Int)):=fun e h=>by
    have K:=(d.out h).1;have L:(2:Int)^k=9223372036854775808:=by rw[e];rfl
    rw[L]at K;exact K
   have S:min k 64=k:=Nat.min_eq_left (by have:=q.out;have:=r.out;omega)
   by_cases u:b=0
   ·subst u;go_wp2_with (go_at_call 74;refine(R.out _).mono ?_;rintro e w2 ⟨rfl,rfl⟩)
    all_goals have U:=q.out
    all_goals have hi:=r.out
    all_goals first
     |(with_reducible refine yl ?_ ?_
       ·rw[D.out (by first|omega|exact .inr ⟨by omega,trivial⟩)];exact⟨f.out,rfl⟩
       ·rfl)
     |(have m:k=63:=by omega
       go_ret;rw[j.out (by omega) (by omega)]
       exact⟨f.out,_,rfl,⟨zhs (y.out m (by omega)),(d.out (by omega)).2⟩,g.out⟩)
     |(go_ret
       rw[j.out (by omega) (by omega)]
       exact⟨f.out,_,rfl,⟨zhs (d.out (by omega)).1,(d.out (by omega)).2⟩,g.out⟩)
   ·have T:(b==0)=false:=by simpa using u
    go_wp2_with (go_at_call 74;refine(R.out _).mono ?_;rintro e w2 ⟨rfl,rfl⟩)
    all_goals have U:=q.out
    all_goals have hi:=r.out
    all_goals first
     |(with_reducible refine yl ?_ ?_
       ·rw[D.out (by first|omega|exact .inr ⟨by omega,trivial⟩)];exact⟨f.out,rfl⟩
       ·rfl)
     |(have m:k=63:=by omega
       go_ret;rw[j.out (by omega) (by omega)]
       exact⟨f.out,_,rfl,⟨zhs (y.out m (by omega)),(d.out (by omega)).2⟩,g.out⟩)
     |(go_ret
       rw[j.out (by omega) (by omega)]
       exact⟨f.out,_,rfl,⟨zhs (d.out (by omega)).1,(d.out (by omega)).2⟩,g.out⟩)
     |with_reducible exact⟨⟨i+1,t+1,_,k+7,zhs (d.out (by omega)).1,zhs (by omega),hid (by omega),hid (by omega),M,g,f,hid (I.out (by omega) (by omega))⟩,by simp only[intOf];omega⟩
def zpj(u:Nat):Int:=if u%2=1 then -((u/2:Nat):Int)-1 else((u/2:Nat):Int)
def ke(zs:List Int)(t:Nat):Except (Int × Int) (Int × Nat):=match zpf zs t with
 |.ok (u,t')=>.ok (zpj u,t')
 |.error e=>.error e
theorem zvt(m:Nat)(a:m<18446744073709551616):bits .and .u64 (m:Int) 1=((m%2:Nat):Int):=by
 have:=u64_and (m:Int) 1 (by omega) (by omega) (by decide) (by decide)
 rw[this,zov];show((m&&& 1:Nat):Int)=_;rw[show(1:Nat)=2^1-1 from rfl,Nat.and_two_pow_sub_one_eq_mod]
theorem zrx{u:Nat}(h:u<18446744073709551616):(Lit.int .i64 (zpj u)).wf=true:=by
 have: -9223372036854775808<=zpj u/\zpj u<=9223372036854775807:=by unfold zpj;split<;>omega
 simpa[Lit.wf,IntKind.min,IntKind.max,IntKind.signed,IntKind.bits]using this
theorem zpb{p:Nat}{a:Option Addr}{c:Nat}{zs:List Int}{t:Nat}{w:World}(h:Rd p a c zs t w):
 Calls Tryz.prog 115 #[.pointer (some ⟨p,0,none⟩)] w (ka p a c zs (fun(x:Int) _ v=>v=.int .i64 x/\(Lit.int .i64 x).wf=true) (ke zs t) w):=by
 have m:=hid (ztY h);clear h;go_enter Tryz.func115,Tryz.ntmps115
 go_wp2_with fail
 refine m.out.mono ?_;rintro e y ⟨j,g⟩;cases b:zpf zs t with
 |error e=>
  have f:ke zs t=.error e:=by unfold ke;rw[b]
  rw[b]at g;obtain rfl:=g;exact yl (P:=Tryz.prog) (fn:=Tryz.f115) (by rw[f];exact⟨j,rfl⟩) rfl
 |ok x=>
  obtain⟨u,r⟩:=x;have f:ke zs t=.ok (zpj u,r):=by unfold ke;rw[b]
  rw[b]at g;obtain⟨_,rfl,⟨rfl,l⟩,d⟩:=g;have HD:Hid (∀v,v=.int .i64 (zpj u)->ka p a c zs (fun(x:Int) _ v=>v=.int .i64 x/\(Lit.int .i64 x).wf=true) (ke zs t) w (.returned v) y):=fun v s=>by
   rw[f];exact⟨j,v,rfl,⟨s,zrx l⟩,d⟩
  have n:=zvt u l;clear m b d j f;by_cases i:u%2=1
  ·have k:zpj u= -((u/2:Nat):Int)-1:=by unfold zpj;rw[if_pos i]
   rw[i]at n;go_wp2;go_ret;refine HD.out _ ?_;rw[k];refine zhs ?_;have o:=i64_not (u/2) (by omega)
   rw[Int.natCast_ediv]at o;show bits .xor .i64 (-1) ((u:Int)/((2:Nat):Int))=_;rw[o];omega
  ·have k:zpj u=((u/2:Nat):Int):=by unfold zpj;rw[if_neg i]
   have q:u%2=0:=by omega
   rw[q]at n;go_wp2;go_ret;refine HD.out _ ?_;rw[k];exact zhs (by omega)
def zpl(zs:List Int)(t:Nat):Except (Int × Int) (Nat × Nat):=match ke zs t with
 |.ok (n,a)=>if n<0\/(zs.length:Int)-(a:Int)<n then .error (2,(t:Int))else .ok (n.toNat,a)
 |.error e=>.error e
theorem zp2{p:Nat}{a:Option Addr}{c:Nat}{zs:List Int}{t:Nat}{w:World}(h:Rd p a c zs t w):
 Calls Tryz.prog 145 #[.pointer (some ⟨p,0,none⟩)] w (ka p a c zs (fun(x:Nat) _ v=>v=.int .i64 (x:Int)/\x<=zs.length) (zpl zs t) w):=by
 have E:=hid (zpb h);have c1:=h.c1;clear h;go_enter Tryz.func145,Tryz.ntmps145
 go_wp2_with fail
 refine E.out.mono ?_;rintro e d ⟨D,q⟩;cases f:ke zs t with
 |error e=>
  have o:zpl zs t=.error e:=by unfold zpl;rw[f]
  rw[f]at q;obtain rfl:=q;exact yl (P:=Tryz.prog) (fn:=Tryz.f145) (by rw[o];exact⟨D,rfl⟩) rfl
 |ok x=>
  obtain⟨n,s⟩:=x;have o:zpl zs t=if n<0\/(zs.length:Int)-(s:Int)<n then .error (2,(t:Int))else .ok (n.toNat,s):=by unfold zpl;rw[f]
  rw[f]at q;obtain⟨_,rfl,⟨rfl,u⟩,b⟩:=q;have J:=b.c0;have I:=b.c1;have i:=b.le;have l:=b.few;have F:=hid (fun w=>zqS 2 (t:Int) w)
  have A:=hid b;have B:=hid D;have y:=hid o;have r:Hid (∀k,Below d.heap.size d (d.drewN k)):=fun k=>⟨rfl,rfl,rfl,zos _,fun _ _=>rfl⟩
  obtain⟨m,hm⟩:∃m:Nat,m=zs.length-s:=⟨_,rfl⟩;have G:IntKind.i64.wrap ((zs.length:Int)-(s:Int))=(m:Int):=by rw[zX _ (by omega) (by omega)];omega
  have C:=hid hm;have g:=hid i;clear E f b D o c1 u hm i l;by_cases H:n<0
  ·have j:Hid (∀k,ka p a c zs (fun(x:Nat) _ v=>v=.int .i64 (x:Int)/\x<=zs.length) (zpl zs t) w (.panicked [{v:=zq9 2 (t:Int),recovered:=false}]) (d.drewN k)):=fun k=>by
    rw[y.out,if_pos (.inl H)];exact⟨B.out.trans (Rn.of (r.out k)),rfl⟩
   go_wp2;go_quiet (fail)
   go_wp2_with fail
   refine(F.out _).mono ?_;rintro e w2 ⟨rfl,rfl⟩;exact yl (P:=Tryz.prog) (fn:=Tryz.f145) (j.out _) rfl
  ·by_cases K:(m:Int)<n
   ·have j:Hid (∀k,ka p a c zs (fun(x:Nat) _ v=>v=.int .i64 (x:Int)/\x<=zs.length) (zpl zs t) w (.panicked [{v:=zq9 2 (t:Int),recovered:=false}]) (d.drewN k)):=fun k=>by
     rw[y.out,if_pos (.inr (by have:=C.out;have:=g.out;omega))]
     exact⟨B.out.trans (Rn.of (r.out k)),rfl⟩
    go_wp2;go_quiet (fail)
    go_wp2_with fail
    refine(F.out _).mono ?_;rintro e w2 ⟨rfl,rfl⟩;exact yl (P:=Tryz.prog) (fn:=Tryz.f145) (j.out _) rfl
   ·have j:Hid (∀k,ka p a c zs (fun(x:Nat) _ v=>v=.int .i64 (x:Int)/\x<=zs.length) (zpl zs t) w (.returned (.int .i64 n)) (d.drewN k)):=fun k=>by
     rw[y.out,if_neg (by have:=C.out;have:=g.out;omega)]
     exact⟨B.out.trans (Rn.of (r.out k)),_,rfl,⟨zhs (by omega),by have:=C.out;omega⟩,A.out.step (r.out k)⟩
    go_wp2;go_quiet (fail)
    go_wp2;go_ret;exact j.out _
def xh{α :Type}(f:Nat->Except (Int × Int) (α × Nat)):Nat->Nat->Except (Int × Int) (List α × Nat)
 |0,t=>.ok ([],t)
 |n+1,t=>match f t with
  |.error e=>.error e
  |.ok (x,t')=>match xh f n t' with
   |.error e=>.error e
   |.ok (l,u)=>.ok (x::l,u)
def yz{α :Type}(zs:List Int)(f:Nat->Except (Int × Int) (α × Nat))(t:Nat):Except (Int × Int) (List α × Nat):=match zpl zs t with
 |.error e=>.error e
 |.ok (n,t')=>xh f n t'
def xk{α :Type}(a:List α):Except (Int × Int) (List α × Nat)->Except (Int × Int) (List α × Nat)
 |.error e=>.error e
 |.ok (l,u)=>.ok (a++l,u)
theorem zo4{α :Type}(f:Nat->Except (Int × Int) (α × Nat))(b:List α)(n t:Nat)(x: α)(a:Nat)(h:f t=.ok (x,a)):xk b (xh f (n+1) t)=xk (b++[x]) (xh f n a):=by
 simp only[xh,h];cases xh f n a with
 |error e=>rfl
 |ok y=>simp[xk]
theorem zo5{α :Type}(f:Nat->Except (Int × Int) (α × Nat))(a:List α)(n t:Nat)(e:Int × Int)(h:f t=.error e):xk a (xh f (n+1) t)=.error e:=by
 simp only[xh,h,xk]
def RowI(k:IntKind)(T:TypeId)(w:World)(g:Nat)(a:List Int):Prop:=w.heap[g]?=some (.cells (a.map (Value.int k)).toArray T (0,0))
theorem RowI.cell{k:IntKind}{T:TypeId}{w:World}{g:Nat}{a:List Int}(h:RowI k T w g a){i:Nat}{x:Int}(b:a[i]?=some x):w.cell? ⟨g,i,none⟩=some (.int k x):=by
 unfold RowI at h;simp[World.cell?,h,b]
theorem RowI.fz{k:IntKind}{T:TypeId}{w:World}{g:Nat}{a:List Int}(h:RowI k T w g a)(i:Nat):w.frozen? ⟨g,i,none⟩=false:=by
 unfold RowI at h;simp[World.frozen?,h]
theorem RowI.put{k:IntKind}{T:TypeId}{w:World}{g:Nat}{a:List Int}(h:RowI k T w g a){i:Nat}(x:Int):RowI k T (w.setCell ⟨g,i,none⟩ (.int k x)) g (a.set i x):=by
 unfold RowI at h ⊢;simp[World.setCell,Array.getElem?_modify,h,List.map_set]
theorem RowI.rn{k:IntKind}{T:TypeId}{w w':World}{g p:Nat}{a:List Int}(h:RowI k T w g a)(r:Rn p w w')(b:g≠p):RowI k T w' g a:=by
 unfold RowI at h ⊢;rw[r.block g (zoj.1 h).1 b];exact h
theorem Rn.put_new{p g:Nat}{w w':World}(h:Rn p w w')(c:w.heap.size<=g)(o:Nat)(v:Value):Rn p w (w'.setCell ⟨g,o,none⟩ v):=
 ⟨h.os,h.tape,h.output,by simpa[World.setCell]using h.size,fun k a b=>(zop _ _ _ _ (by show k≠g;omega)).trans (h.block k a b)⟩
theorem Has.off_kind{k g:IntKind}{w:World}{a:Option Addr}{len:Nat}{zs:List Int}(h:Has k w a len zs)(j:k≠g){q:Addr}{x:Int}(d:w.cell? q=Option.some (.int g x))(v:Value):Has k (w.setCell q v) a len zs:=by
 refine⟨h.1,h.2.1,?_⟩;rcases h.2.2 with h|⟨b,off,rfl,c,f⟩
 ·exact .inl h
 ·refine .inr ⟨b,off,rfl,by simpa[World.setCell]using c,fun i hi=>?_⟩
  rw[zou _ _ _ _ (by
   intro e;rw[e,f i hi]at d;simp only[zoo,Value.int.injEq]at d;exact j d.1)]
  exact f i hi
theorem Rd.put_row{p:Nat}{a:Option Addr}{c:Nat}{zs:List Int}{t:Nat}{w:World}(h:Rd p a c zs t w){k:IntKind}(b:.u8≠k){g o:Nat}{x:Int}(d:w.cell? ⟨g,o,none⟩=some (.int k x))(f:g≠p)(v:Value):Rd p a c zs t (w.setCell ⟨g,o,none⟩ v):=
 ⟨(zou _ _ _ _ (by intro e;simp only[Addr.mk.injEq]at e;omega)).trans h.c0,(zou _ _ _ _ (by intro e;simp only[Addr.mk.injEq]at e;omega)).trans h.c1,(World.frozen?_setCell _ _ _ _).trans h.fz,h.hz.off_kind b d _,h.le,h.few,h.lo⟩
def IntsV(w:World)(a:List Int)(w':World)(v:Value):Prop:=∃g,v=.slice (some ⟨g,0,none⟩) a.length a.length/\w.heap.size<=g/\RowI .i64 3 w' g a/\∀x∈a,(Lit.int .i64 x).wf=true
theorem zp8{p:Nat}{a:Option Addr}{c:Nat}{zs:List Int}{t:Nat}{w:World}(h:Rd p a c zs t w):
 Calls Tryz.prog 114 #[.pointer (some ⟨p,0,none⟩),.func (.func 115) #[.pointer (some ⟨p,0,none⟩)] #[]] w (ka p a c zs (IntsV w) (yz zs (ke zs) t) w):=by
 have HP:=hid (zp2 h);clear h;go_enter Tryz.func114,Tryz.ntmps114
 go_wp2_with fail
 refine HP.out.mono ?_;rintro e D ⟨T,Q⟩;cases F:zpl zs t with
 |error e=>
  have O:yz zs (ke zs) t=.error e:=by unfold yz;rw[F]
  rw[F]at Q;obtain rfl:=Q;exact yl (P:=Tryz.prog) (fn:=Tryz.f114) (by rw[O];exact⟨T,rfl⟩) rfl
 |ok x=>
  obtain⟨m,V⟩:=x;have O:yz zs (ke zs) t=xh (ke zs) m V:=by unfold yz;rw[F]
  rw[F]at Q;obtain⟨_,rfl,⟨rfl,hm⟩,n⟩:=Q;obtain⟨i0,hi,L,K,N⟩:=info_parts Tryz.infoInt;have o:m<=100000:=zoz hm n.few;have Z:∀W:World,(Instr.makeSlice 23 (.int .i64 (m:Int)) (.int .i64 (m:Int))).run Tryz.prog W=.ok (.slice (some ⟨W.heap.size,0,none⟩) m m) (W.alloc (.cells (Array.replicate m (.int .i64 0)) 3)):=fun W=>by
   have h:=run_make (P:=Tryz.prog) W 23 3 i0 _ Tryz.underlying23 hi L .i64 .i64 (m:Int) (m:Int) (by omega) (by omega) (by rw[N];omega) (by omega)
   rw[show((m:Int)).toNat=m by omega,K]at h
   have a5:madeCells #[Value.int .i64 0] m=Array.replicate m (Value.int .i64 0):=Array.ext' (by rw[toList_madeCells_one];simp)
   rw[<-a5];rw[Nat.mul_one]at h;exact h
  obtain⟨R,hW⟩:∃R,R=D.alloc (.cells (Array.replicate m (.int .i64 0)) 3):=⟨_,rfl⟩;obtain⟨g,hg⟩:∃g,g=D.heap.size:=⟨_,rfl⟩;have b2:Below D.heap.size D R:=by rw[hW];exact ze (zof _ _)
  have R0:RowI .i64 3 R g (List.replicate m 0):=by
   unfold RowI;rw[hW,hg,List.map_replicate,List.toArray_replicate];show(D.heap.push _)[D.heap.size]?=_;rw[Array.getElem?_push_size]
  have E:=hid (n.step b2);have B:=hid (T.trans (Rn.of b2));have a6:p<g:=by rw[hg];exact zog _ _ n.c0
  have I:Hid (w.heap.size<=g):=by show w.heap.size<=g;rw[hg];exact T.size
  have G:Hid (g≠p):=by show g≠p;omega
  have b:=hid R0;have EW:=hid hW;have EG:=hid hg;have E1:=hid O;have a8:=hid o;clear HP F n T O hm hi L K N hW hg b2 R0 a6 o;go_wp2;rw[<-EW.out,<-EG.out];clear EW EG Z;go_loopw [12,6] (fun q _ wr=>∃(i u:Nat) (d:List Int),q=.int .i64 (i:Int)/\Hid (i<=m)/\Hid (d.length=i)/\Hid (∀x∈d,(Lit.int .i64 x).wf=true)/\Hid (xk d (xh (ke zs) (m-i) u)=yz zs (ke zs) t)/\Hid (Rd p a c zs u wr)/\Hid (Rn p w wr)/\Hid (RowI .i64 3 wr g (d++List.replicate (m-i) 0))) (fun q _ _=>m-(intOf q).toNat)
  case atStart=>
   refine⟨0,V,[],rfl,zon _,rfl,fun x S=>(by simp at S),?_,E,B,by simpa[Hid]using b.out⟩
   show xk [] (xh (ke zs) m V)=_;rw[E1.out];cases xh (ke zs) m V with
   |error e=>rfl
   |ok y=>rfl
  case round=>
   obtain⟨i,u,d,rfl,HI,r,l,U,E,B,b⟩:=hrel;by_cases a7:i<m
   ·have a4:(i:Int)<(m:Int):=by omega
    have HF:=hid (zpb E.out);go_wp2_with fail
    refine HF.out.mono ?_;rintro e w3 ⟨k,f⟩;have C:=U.out;rw[show m-i=(m-i-1)+1 by omega]at C
    cases M:ke zs u with
    |error e=>
     rw[zo5 _ _ _ _ e M]at C;rw[M]at f;obtain rfl:=f;exact yl (P:=Tryz.prog) (fn:=Tryz.f114) (by rw[<-C];exact⟨B.out.trans k,rfl⟩) rfl
    |ok y=>
     obtain⟨x,X⟩:=y;rw[zo4 _ _ _ _ x X M]at C;rw[M]at f;obtain⟨_,rfl,⟨rfl,J⟩,f⟩:=f;have j:=b.out.rn k G.out;have S:(d++List.replicate (m-i) 0)[i]?=some 0:=by
      rw[zoO (by have:=r.out;omega),List.getElem?_replicate,if_pos (by have:=r.out;omega)]
     have k0:=j.cell S;have k1:=j.fz i;have k2:g<w3.heap.size:=zog _ _ k0;have a1:=hid (f.put_row (by decide) k0 G.out (.int .i64 x))
     have a2:=hid ((B.out.trans k).put_new I.out i (.int .i64 x));have A:Hid (RowI .i64 3 (w3.setCell ⟨g,i,none⟩ (.int .i64 x)) g ((d++[x])++List.replicate (m-(i+1)) 0)):=by
      have h1:=j.put (i:=i) x;have h2:(d++List.replicate (m-i) 0).set i x=(d++[x])++List.replicate (m-(i+1)) 0:=by
       rw[List.set_append_right _ _ (by have:=r.out;omega),show i-d.length=0 by have:=r.out;omega,show m-i=(m-(i+1))+1 by omega,List.replicate_succ,List.set_cons_zero]
       simp
      rw[h2]at h1;exact h1
     have a0:Hid (xk (d++[x]) (xh (ke zs) (m-(i+1)) X)=yz zs (ke zs) t):=by
      show _=_;rw[<-C,show m-(i+1)=m-i-1 by omega]
     have Y:Hid ((d++[x]).length=i+1):=by show _=_;rw[List.length_append,r.out];rfl
     have H:Hid (∀y∈d++[x],(Lit.int .i64 y).wf=true):=fun y hy=>by
      rcases List.mem_append.1 hy with h|h
      ·exact l.out y h
      ·simp only[zoD,zoA,or_false]at h;rw[h];exact J
     have a9:=a8.out;clear HF k f C M j S U r l b E B J;go_wp2;go_roundw
     case rel=>exact⟨i+1,X,d++[x],zhs (by omega),hid a7,Y,H,a0,a1,a2,A⟩
     case measure=>simp[intOf];omega
   ·have a4:¬(i:Int)<(m:Int):=by omega
    have e3:m-i=0:=by omega
    have HE:Hid (ka p a c zs (IntsV w) (yz zs (ke zs) t) w (.returned (.slice (some ⟨g,0,none⟩) m m)) wr):=by
     show ka _ _ _ _ _ _ _ _ _;rw[<-U.out,e3];have a3:d.length=m:=by have h1:=r.out;have h2:=HI.out;omega
     have s:=b.out;rw[e3,List.replicate_zero,List.append_nil]at s;refine⟨B.out,_,rfl,⟨g,?_,I.out,?_,?_⟩,E.out⟩
     ·rw[List.append_nil,a3]
     ·rw[List.append_nil];exact s
     ·rw[List.append_nil];exact l.out
    clear U r l b E B;go_wp2;go_ret;exact HE.out
def zo0(zs:List Int)(t:Nat):Except (Int × Int) (Int × Nat):=match zpf zs t with
 |.ok (u,t')=>.ok ((u:Int),t')
 |.error e=>.error e
theorem zqT{p:Nat}{a:Option Addr}{c:Nat}{zs:List Int}{t:Nat}{w:World}(h:Rd p a c zs t w):
 Calls Tryz.prog 146 #[.pointer (some ⟨p,0,none⟩)] w (ka p a c zs (fun(x:Int) _ v=>v=.int .u64 x/\(Lit.int .u64 x).wf=true) (zo0 zs t) w):=by
 refine(ztY h).mono fun e w' ⟨f,b⟩=>?_
 unfold zo0;cases d:zpf zs t with
 |error e=>
  rw[d]at b;exact⟨f,b⟩
 |ok y=>
  obtain⟨u,l⟩:=y;rw[d]at b;obtain⟨v,j,⟨g,k⟩,i⟩:=b;refine⟨f,v,j,⟨g,?_⟩,i⟩;have:(0:Int)<=(u:Int)/\(u:Int)<=18446744073709551615:=by omega
  simpa[Lit.wf,IntKind.min,IntKind.max,IntKind.signed,IntKind.bits]using this
def NumsV(w:World)(a:List Int)(w':World)(v:Value):Prop:=∃g,v=.slice (some ⟨g,0,none⟩) a.length a.length/\w.heap.size<=g/\RowI .u64 96 w' g a/\∀x∈a,(Lit.int .u64 x).wf=true
theorem zsU{p:Nat}{a:Option Addr}{c:Nat}{zs:List Int}{t:Nat}{w:World}(h:Rd p a c zs t w):
 Calls Tryz.prog 152 #[.pointer (some ⟨p,0,none⟩),.func (.func 146) #[.pointer (some ⟨p,0,none⟩)] #[]] w (ka p a c zs (NumsV w) (yz zs (zo0 zs) t) w):=by
 have HP:=hid (zp2 h);clear h;go_enter Tryz.func152,Tryz.ntmps152
 go_wp2_with fail
 refine HP.out.mono ?_;rintro e D ⟨T,Q⟩;cases F:zpl zs t with
 |error e=>
  have O:yz zs (zo0 zs) t=.error e:=by unfold yz;rw[F]
  rw[F]at Q;obtain rfl:=Q;exact yl (P:=Tryz.prog) (fn:=Tryz.f152) (by rw[O];exact⟨T,rfl⟩) rfl
 |ok x=>
  obtain⟨m,V⟩:=x;have O:yz zs (zo0 zs) t=xh (zo0 zs) m V:=by unfold yz;rw[F]
  rw[F]at Q;obtain⟨_,rfl,⟨rfl,hm⟩,n⟩:=Q;obtain⟨i0,hi,L,K,N⟩:=info_parts Tryz.info96;have o:m<=100000:=zoz hm n.few;have Z:∀W:World,(Instr.makeSlice 61 (.int .i64 (m:Int)) (.int .i64 (m:Int))).run Tryz.prog W=.ok (.slice (some ⟨W.heap.size,0,none⟩) m m) (W.alloc (.cells (Array.replicate m (.int .u64 0)) 96)):=fun W=>by
   have h:=run_make (P:=Tryz.prog) W 61 96 i0 _ Tryz.underlying61 hi L .i64 .i64 (m:Int) (m:Int) (by omega) (by omega) (by rw[N];omega) (by omega)
   rw[show((m:Int)).toNat=m by omega,K]at h
   have a5:madeCells #[Value.int .u64 0] m=Array.replicate m (Value.int .u64 0):=Array.ext' (by rw[toList_madeCells_one];simp)
   rw[<-a5];rw[Nat.mul_one]at h;exact h
  obtain⟨R,hW⟩:∃R,R=D.alloc (.cells (Array.replicate m (.int .u64 0)) 96):=⟨_,rfl⟩;obtain⟨g,hg⟩:∃g,g=D.heap.size:=⟨_,rfl⟩;have b2:Below D.heap.size D R:=by rw[hW];exact ze (zof _ _)
  have R0:RowI .u64 96 R g (List.replicate m 0):=by
   unfold RowI;rw[hW,hg,List.map_replicate,List.toArray_replicate];show(D.heap.push _)[D.heap.size]?=_;rw[Array.getElem?_push_size]
  have E:=hid (n.step b2);have B:=hid (T.trans (Rn.of b2));have a6:p<g:=by rw[hg];exact zog _ _ n.c0
  have I:Hid (w.heap.size<=g):=by show w.heap.size<=g;rw[hg];exact T.size
  have G:Hid (g≠p):=by show g≠p;omega
  have b:=hid R0;have EW:=hid hW;have EG:=hid hg;have E1:=hid O;have a8:=hid o;clear HP F n T O hm hi L K N hW hg b2 R0 a6 o;go_wp2;rw[<-EW.out,<-EG.out];clear EW EG Z;go_loopw [12,6] (fun q _ wr=>∃(i u:Nat) (d:List Int),q=.int .i64 (i:Int)/\Hid (i<=m)/\Hid (d.length=i)/\Hid (∀x∈d,(Lit.int .u64 x).wf=true)/\Hid (xk d (xh (zo0 zs) (m-i) u)=yz zs (zo0 zs) t)/\Hid (Rd p a c zs u wr)/\Hid (Rn p w wr)/\Hid (RowI .u64 96 wr g (d++List.replicate (m-i) 0))) (fun q _ _=>m-(intOf q).toNat)
  case atStart=>
   refine⟨0,V,[],rfl,zon _,rfl,fun x S=>(by simp at S),?_,E,B,by simpa[Hid]using b.out⟩
   show xk [] (xh (zo0 zs) m V)=_;rw[E1.out];cases xh (zo0 zs) m V with
   |error e=>rfl
   |ok y=>rfl
  case round=>
   obtain⟨i,u,d,rfl,HI,r,l,U,E,B,b⟩:=hrel;by_cases a7:i<m
   ·have a4:(i:Int)<(m:Int):=by omega
    have HF:=hid (zqT E.out);go_wp2_with fail
    refine HF.out.mono ?_;rintro e w3 ⟨k,f⟩;have C:=U.out;rw[show m-i=(m-i-1)+1 by omega]at C
    cases M:zo0 zs u with
    |error e=>
     rw[zo5 _ _ _ _ e M]at C;rw[M]at f;obtain rfl:=f;exact yl (P:=Tryz.prog) (fn:=Tryz.f152) (by rw[<-C];exact⟨B.out.trans k,rfl⟩) rfl
    |ok y=>
     obtain⟨x,X⟩:=y;rw[zo4 _ _ _ _ x X M]at C;rw[M]at f;obtain⟨_,rfl,⟨rfl,J⟩,f⟩:=f;have j:=b.out.rn k G.out;have S:(d++List.replicate (m-i) 0)[i]?=some 0:=by
      rw[zoO (by have:=r.out;omega),List.getElem?_replicate,if_pos (by have:=r.out;omega)]
     have k0:=j.cell S;have k1:=j.fz i;have k2:g<w3.heap.size:=zog _ _ k0;have a1:=hid (f.put_row (by decide) k0 G.out (.int .u64 x))
     have a2:=hid ((B.out.trans k).put_new I.out i (.int .u64 x));have A:Hid (RowI .u64 96 (w3.setCell ⟨g,i,none⟩ (.int .u64 x)) g ((d++[x])++List.replicate (m-(i+1)) 0)):=by
      have h1:=j.put (i:=i) x;have h2:(d++List.replicate (m-i) 0).set i x=(d++[x])++List.replicate (m-(i+1)) 0:=by
       rw[List.set_append_right _ _ (by have:=r.out;omega),show i-d.length=0 by have:=r.out;omega,show m-i=(m-(i+1))+1 by omega,List.replicate_succ,List.set_cons_zero]
       simp
      rw[h2]at h1;exact h1
     have a0:Hid (xk (d++[x]) (xh (zo0 zs) (m-(i+1)) X)=yz zs (zo0 zs) t):=by
      show _=_;rw[<-C,show m-(i+1)=m-i-1 by omega]
     have Y:Hid ((d++[x]).length=i+1):=by show _=_;rw[List.length_append,r.out];rfl
     have H:Hid (∀y∈d++[x],(Lit.int .u64 y).wf=true):=fun y hy=>by
      rcases List.mem_append.1 hy with h|h
      ·exact l.out y h
      ·simp only[zoD,zoA,or_false]at h;rw[h];exact J
     have a9:=a8.out;clear HF k f C M j S U r l b E B J;go_wp2;go_roundw
     case rel=>exact⟨i+1,X,d++[x],zhs (by omega),hid a7,Y,H,a0,a1,a2,A⟩
     case measure=>simp[intOf];omega
   ·have a4:¬(i:Int)<(m:Int):=by omega
    have e3:m-i=0:=by omega
    have HE:Hid (ka p a c zs (NumsV w) (yz zs (zo0 zs) t) w (.returned (.slice (some ⟨g,0,none⟩) m m)) wr):=by
     show ka _ _ _ _ _ _ _ _ _;rw[<-U.out,e3];have a3:d.length=m:=by have h1:=r.out;have h2:=HI.out;omega
     have s:=b.out;rw[e3,List.replicate_zero,List.append_nil]at s;refine⟨B.out,_,rfl,⟨g,?_,I.out,?_,?_⟩,E.out⟩
     ·rw[List.append_nil,a3]
     ·rw[List.append_nil];exact s
     ·rw[List.append_nil];exact l.out
    clear U r l b E B;go_wp2;go_ret;exact HE.out
def y7{α β :Type}(r:Except (Int × Int) (α × Nat))(f: α->Nat->Except (Int × Int) (β × Nat)):Except (Int × Int) (β × Nat):=match r with
 |.error e=>.error e
 |.ok (x,t)=>f x t
def jp(zs:List Int)(t:Nat):Except (Int × Int) ((Int × Int) × Nat):=y7 (ke zs t) fun h u=>y7 (ke zs u) fun f a=>.ok ((h,f),a)
theorem Rn.cell{p:Nat}{w w':World}(r:Rn p w w'){g o:Nat}{v:Value}(h:w.cell? ⟨g,o,none⟩=some v)(b:g≠p):w'.cell? ⟨g,o,none⟩=some v:=by
 have a:=zog _ _ h;have e:=r.block g a b;unfold World.cell? at h ⊢;dsimp only at h ⊢;rw[e];exact h
theorem Rn.frz{p:Nat}{w w':World}(r:Rn p w w'){g:Nat}(o:Nat)(a:g<w.heap.size)(b:g≠p):w'.frozen? ⟨g,o,none⟩=w.frozen? ⟨g,o,none⟩:=by
 have e:=r.block g a b;unfold World.frozen?;dsimp only;rw[e]
def zvj(x:Int × Int)(_:World)(v:Value):Prop:=v=.agg #[.int .i64 x.1,.int .i64 x.2]/\(Lit.int .i64 x.1).wf=true/\(Lit.int .i64 x.2).wf=true
theorem zra{p:Nat}{a:Option Addr}{c:Nat}{zs:List Int}{t:Nat}{w:World}(h:Rd p a c zs t w):
 Calls Tryz.prog 147 #[.pointer (some ⟨p,0,none⟩)] w (ka p a c zs zvj (jp zs t) w):=by
 obtain⟨s,m⟩:∃s,s=w.alloc (.cells #[.int .i64 0,.int .i64 0] 48):=⟨_,rfl⟩;obtain⟨bx,ebx⟩:∃b,b=w.heap.size:=⟨_,rfl⟩;have M:Below w.heap.size w s:=by rw[m];exact ze (zof _ _)
 have J:s.cell? ⟨bx,0,none⟩=some (.int .i64 0):=by rw[m,ebx];exact(zod _ _ _ _ rfl).trans rfl
 have X:s.cell? ⟨bx,1,none⟩=some (.int .i64 0):=by rw[m,ebx];exact(zod _ _ _ _ rfl).trans rfl
 have f0:∀o,s.frozen? ⟨bx,o,none⟩=false:=fun o=>by rw[m,ebx];exact zoB _ _ _ _ rfl
 have C:bx≠p:=by have:=zog _ _ h.c0;simp only at this;omega
 have R:=hid (zpb (h.step M));have K:Hid (Rn p w s):=Rn.of M;have d:=hid C;have n:Hid (w.heap.size<=bx):=by show w.heap.size<=bx;omega
 have F0:=hid f0;have T:=hid m;have Z:=hid ebx;clear h m ebx M f0 C;go_enter Tryz.func147,Tryz.ntmps147
 go_wp2_with fail
 rw[<-T.out,<-Z.out];clear T Z;refine R.out.mono ?_;rintro e w2 ⟨g,i⟩;cases E:ke zs t with
 |error e=>
  rw[E]at i;obtain rfl:=i;exact yl (P:=Tryz.prog) (fn:=Tryz.f147) (by unfold jp;rw[E];exact⟨K.out.trans g,rfl⟩) rfl
 |ok y=>
  obtain⟨x,u⟩:=y;rw[E]at i;obtain⟨_,rfl,⟨rfl,D⟩,i⟩:=i;have H:=g.cell J d.out;have q1:=g.cell X d.out;have N:=zog _ _ J;have z0:=(g.frz 0 N d.out).trans (F0.out 0);have z1:=(g.frz 1 N d.out).trans (F0.out 1);have I:bx<w2.heap.size:=zog _ _ H;obtain⟨r,eW3⟩:∃r,r=w2.setCell ⟨bx,0,none⟩ (.int .i64 x):=⟨_,rfl⟩;have r3:Rd p a c zs u r:=by rw[eW3];exact i.put_row (by decide) H d.out _
  have V:Rn p w r:=by rw[eW3];exact(K.out.trans g).put_new n.out 0 _
  have O:r.cell? ⟨bx,0,none⟩=some (.int .i64 x):=by rw[eW3];exact zot _ _ _ H
  have m1:r.cell? ⟨bx,1,none⟩=some (.int .i64 0):=by rw[eW3];exact(zou _ _ _ _ (by simp)).trans q1
  have Y:r.frozen? ⟨bx,0,none⟩=false:=by rw[eW3];exact(World.frozen?_setCell _ _ _ _).trans z0
  have S:r.frozen? ⟨bx,1,none⟩=false:=by rw[eW3];exact(World.frozen?_setCell _ _ _ _).trans z1
  have F:=hid (zpb r3);have A:=hid V;have E3:=hid eW3;have L:=hid E;have Q:=hid D;clear R g i E J X q1 z1 N eW3 r3 V D K F0;go_wp2_with fail
  rw[<-E3.out];clear E3 H z0 I;refine F.out.mono ?_;rintro e G ⟨f,j⟩;cases k:ke zs u with
  |error e=>
   rw[k]at j;obtain rfl:=j;exact yl (P:=Tryz.prog) (fn:=Tryz.f147) (by unfold jp;rw[L.out];unfold y7;dsimp only;rw[k];exact⟨A.out.trans f,rfl⟩) rfl
  |ok y=>
   obtain⟨l,u2⟩:=y;rw[k]at j;obtain⟨_,rfl,⟨rfl,q⟩,j⟩:=j;have U:=f.cell O d.out;have p1:=f.cell m1 d.out;have B:=zog _ _ O;have g0:=(f.frz 0 B d.out).trans Y;have g1:=(f.frz 1 B d.out).trans S;have a0:bx<G.heap.size:=zog _ _ U;have HE:Hid (∀W,W=((G.setCell ⟨bx,1,none⟩ (.int .i64 l)).setCell ⟨bx,0,none⟩ (.int .i64 x)).setCell ⟨bx,1,none⟩ (.int .i64 l)->ka p a c zs zvj (jp zs t) w (.returned (.agg #[.int .i64 x,.int .i64 l])) W):=fun W m=>by
    unfold jp;rw[L.out];unfold y7;dsimp only;rw[k];have e0:(G.setCell ⟨bx,1,none⟩ (.int .i64 l)).cell? ⟨bx,0,none⟩=some (.int .i64 x):=(zou _ _ _ _ (by simp)).trans U
    have e1:(G.setCell ⟨bx,1,none⟩ (.int .i64 l)).cell? ⟨bx,1,none⟩=some (.int .i64 l):=zot _ _ _ p1;have e2:((G.setCell ⟨bx,1,none⟩ (.int .i64 l)).setCell ⟨bx,0,none⟩ (.int .i64 x)).cell? ⟨bx,1,none⟩=some (.int .i64 l):=(zou _ _ _ _ (by simp)).trans e1
    refine⟨?_,_,rfl,⟨rfl,Q.out,q⟩,?_⟩
    ·rw[m];exact(((A.out.trans f).put_new n.out 1 _).put_new n.out 0 _).put_new n.out 1 _
    ·rw[m];exact((j.put_row (by decide) p1 d.out _).put_row (by decide) e0 d.out _).put_row (by decide) e2 d.out _
   clear F f j k O m1 Y S B A L Q q;go_wp2;exact bodyPost_ret (v:=.agg #[.int .i64 x,.int .i64 l]) (by simp[results,Tryz.results147,go_sem, *]) rfl (HE.out _ rfl)
def cdE:Except (Int × Int) Nat->Int
 |.ok _=>0
 |.error e=>e.1
def atE:Except (Int × Int) Nat->Int
 |.ok _=>0
 |.error e=>e.2
theorem ztR(t:Nat):cdE (.ok t)=0:=rfl
theorem ztS(t:Nat):atE (.ok t)=0:=rfl
def okE:Except (Int × Int) Nat->Bool
 |.ok _=>true
 |.error _=>false
structure Sim {α : Type} (s : Except (Int × Int) Nat) (R : Nat -> Except (Int × Int) (α × Nat)) (s1 : Except (Int × Int) Nat) (R1 : Nat -> Except (Int × Int) (α × Nat)) : Prop where
 ok : ∀ t, s1 = .ok t -> ∃ t0, s = .ok t0 /\ R t0 = R1 t
 er : ∀ e, s1 = .error e -> s = .error e \/ ∃ t0, s = .ok t0 /\ R t0 = .error e
theorem Sim.refl{α :Type}(s:Except (Int × Int) Nat)(R:Nat->Except (Int × Int) (α × Nat)):Sim s R s R:=⟨fun t h=>⟨t,h,rfl⟩,fun _ h=>.inl h⟩
theorem Sim.bad{α :Type}{s:Except (Int × Int) Nat}{R a:Nat->Except (Int × Int) (α × Nat)}{e:Int × Int}(h:Sim s R (.error e) a)(b:Nat->Except (Int × Int) (α × Nat)):Sim s R (.error e) b:=⟨(fun t h=>by cases h),h.er⟩
theorem Sim.next{α β :Type}{s s1 s2:Except (Int × Int) Nat}{R:Nat->Except (Int × Int) (α × Nat)}{Q:Nat->Except (Int × Int) (β × Nat)}{K: β->Nat->Except (Int × Int) (α × Nat)}{X: β}(h:Sim s R s1 fun t=>y7 (Q t) K)(k:Sim s1 Q s2 fun t=>.ok (X,t)):Sim s R s2 fun t=>K X t:=by
 refine⟨fun t i=>?_,fun e j=>?_⟩
 ·obtain⟨d,a,c⟩:=k.ok t i;obtain⟨g,b,f⟩:=h.ok d a;exact⟨g,b,by rw[f,c];rfl⟩
 ·rcases k.er e j with a|⟨d,a,c⟩
  ·exact h.er e a
  ·obtain⟨g,b,f⟩:=h.ok d a;exact .inr ⟨g,b,by rw[f,c];rfl⟩
theorem Sim.eq{α :Type}{s s1:Except (Int × Int) Nat}{R a b:Nat->Except (Int × Int) (α × Nat)}(h:Sim s R s1 a)(e:∀t,a t=b t):Sim s R s1 b:=⟨fun t c=>by obtain⟨g,f,d⟩:=h.ok t c;exact⟨g,f,d.trans (e t)⟩,h.er⟩
structure Tk (p : Nat) (a : Option Addr) (c : Nat) (zs : List Int) (s : Except (Int × Int) Nat) (w : World) : Prop where
 c0 : w.cell? ⟨p, 0, none⟩ = some (.slice a zs.length c)
 c1 : ∃ t : Nat, w.cell? ⟨p, 1, none⟩ = some (.int .i64 (t : Int)) /\ t <= zs.length /\ ∀ u, s = .ok u -> u = t
 c2 : w.cell? ⟨p, 2, none⟩ = some (.int .i64 (cdE s))
 c3 : w.cell? ⟨p, 3, none⟩ = some (.int .i64 (atE s))
 f1 : w.frozen? ⟨p, 1, none⟩ = false
 f2 : w.frozen? ⟨p, 2, none⟩ = false
 f3 : w.frozen? ⟨p, 3, none⟩ = false
 nz : ∀ e, s = .error e -> e.1 ≠ 0
 hz : Has .u8 w a zs.length zs
 few : zs.length <= 100000
 lo : ∀ ad, a = some ad -> ad.block < p
theorem Tk.lt{p:Nat}{a:Option Addr}{c:Nat}{zs:List Int}{s:Except (Int × Int) Nat}{w:World}(h:Tk p a c zs s w):p<w.heap.size:=zog _ _ h.c0
theorem Tk.step{p:Nat}{a:Option Addr}{c:Nat}{zs:List Int}{s:Except (Int × Int) Nat}{w w':World}(h:Tk p a c zs s w)(b:Below w.heap.size w w'):Tk p a c zs s w':=by
 obtain⟨t,f,d,e⟩:=h.c1;exact⟨za h.c0 b,⟨t,za f b,d,e⟩,za h.c2 b,za h.c3 b,(b.frozen (p:=⟨p,1,none⟩) h.lt).trans h.f1,(b.frozen (p:=⟨p,2,none⟩) h.lt).trans h.f2,(b.frozen (p:=⟨p,3,none⟩) h.lt).trans h.f3,h.nz,h.hz.step b,h.few,h.lo⟩
theorem Tk.go{p:Nat}{a:Option Addr}{c:Nat}{zs:List Int}{t:Nat}{w:World}(h:Tk p a c zs (.ok t) w){u:Nat}(d:u<=zs.length):Tk p a c zs (.ok u) (w.setCell ⟨p,1,none⟩ (.int .i64 (u:Int))):=by
 obtain⟨s,b,r,m⟩:=h.c1;have k:∀(o:Nat) (v:Value),o≠1->w.cell? ⟨p,o,none⟩=some v->(w.setCell ⟨p,1,none⟩ (.int .i64 (u:Int))).cell? ⟨p,o,none⟩=some v:=fun o v n l=>(zou _ _ _ _ (fun e=>by simp only[Addr.mk.injEq]at e;omega)).trans l
 have c2:=h.c2;have c3:=h.c3;rw[ztR]at c2;rw[ztS]at c3;have j:=k 2 _ (by decide) c2
 have g:=k 3 _ (by decide) c3
 have z1:=zot w ⟨p,1,none⟩ (.int .i64 (u:Int)) b;have z0:=k 0 _ (by decide) h.c0
 have hz:=h.hz.put (by decide) b (.int .i64 (u:Int))
 have fz:∀q,(w.setCell ⟨p,1,none⟩ (.int .i64 (u:Int))).frozen? q=w.frozen? q:=fun q=>World.frozen?_setCell _ _ _ _
 exact{c0:=z0,c1:=⟨u,z1,d,fun x f=>(by cases f;rfl)⟩,c2:=(by rw[ztR];exact j),c3:=(by rw[ztS];exact g),f1:=(fz _).trans h.f1,f2:=(fz _).trans h.f2,f3:=(fz _).trans h.f3,nz:=fun e i=>(by cases i),hz:=hz,few:=h.few,lo:=h.lo}
theorem Tk.bad{p:Nat}{a:Option Addr}{c:Nat}{zs:List Int}{t:Nat}{w:World}(h:Tk p a c zs (.ok t) w){x y:Int}(A:x≠0):Tk p a c zs (.error (x,y)) ((w.setCell ⟨p,2,none⟩ (.int .i64 x)).setCell ⟨p,3,none⟩ (.int .i64 y)):=by
 obtain⟨r,s,m,-⟩:=h.c1;have b:∀(o:Nat) (v:Value),o≠2->w.cell? ⟨p,o,none⟩=some v->(w.setCell ⟨p,2,none⟩ (.int .i64 x)).cell? ⟨p,o,none⟩=some v:=fun o v l g=>(zou _ _ _ _ (fun e=>by simp only[Addr.mk.injEq]at e;omega)).trans g
 have d:∀(i:World) (o:Nat) (v:Value),o≠3->i.cell? ⟨p,o,none⟩=some v->(i.setCell ⟨p,3,none⟩ (.int .i64 y)).cell? ⟨p,o,none⟩=some v:=fun i o v l g=>(zou _ _ _ _ (fun e=>by simp only[Addr.mk.injEq]at e;omega)).trans g
 have j:=zot w ⟨p,2,none⟩ (.int .i64 x) h.c2;have f:∀q,((w.setCell ⟨p,2,none⟩ (.int .i64 x)).setCell ⟨p,3,none⟩ (.int .i64 y)).frozen? q=w.frozen? q:=fun q=>(World.frozen?_setCell _ _ _ _).trans (World.frozen?_setCell _ _ _ _)
 exact⟨d _ 0 _ (by decide) (b 0 _ (by decide) h.c0),⟨r,d _ 1 _ (by decide) (b 1 _ (by decide) s),m,fun u k=>by cases k⟩,d _ 2 _ (by decide) j,zot _ _ _ (b 3 _ (by decide) h.c3),(f _).trans h.f1,(f _).trans h.f2,(f _).trans h.f3,fun e n=>by cases n;exact A,(h.hz.put (by decide) h.c2 _).put (by decide) (b 3 _ (by decide) h.c3) _,h.few,h.lo⟩
def TD{α :Type}(p:Nat)(a:Option Addr)(c:Nat)(zs:List Int)(s:Except (Int × Int) Nat)(R:Nat->Except (Int × Int) (α × Nat))(V: α->Value->World->Prop)(w:World)(e:Ending)(w':World):Prop:=∃v X b,e=.returned v/\V X v w'/\Rn p w w'/\Tk p a c zs b w'/\Sim s R b fun t=>.ok (X,t)
theorem tok{p:Nat}{a:Option Addr}{c:Nat}{zs:List Int}{s:Except (Int × Int) Nat}{w:World}(h:Tk p a c zs s w):
 Calls Tryz.prog 33 #[.pointer (some ⟨p,0,none⟩)] w fun e w'=>e=.returned (.bool (okE s))/\w'=w:=by
 have c2:=h.c2;have d:=h.lt;have nz:=h.nz;cases s with
 |ok t=>
  rw[show cdE (.ok t)=0 from rfl]at c2
  clear h nz;go_enter Tryz.func33,Tryz.ntmps33
  go_wp2;go_ret;exact⟨rfl,rfl⟩
 |error e=>
  rw[show cdE (.error e)=e.1 from rfl]at c2
  have b:(e.1==0)=false:=by simpa using nz e rfl
  clear h nz;generalize e.1=x at*;go_enter Tryz.func33,Tryz.ntmps33
  go_wp2;go_ret;exact⟨rfl,rfl⟩
def TW(p:Nat)(a:Option Addr)(c:Nat)(zs:List Int)(s:Except (Int × Int) Nat)(w:World)(e:Ending)(w':World):Prop:=e=.returned (.tuple #[])/\Rn p w w'/\Tk p a c zs s w'
theorem zsd{p:Nat}{a:Option Addr}{c:Nat}{zs:List Int}{t:Nat}{w:World}(h:Tk p a c zs (.ok t) w){x y:Int}(j:x≠0):
 Calls Tryz.prog 125 #[.pointer (some ⟨p,0,none⟩),.int .i64 x,.int .i64 y] w (TW p a c zs (.error (x,y)) w):=by
 have f:=hid (tok h);have H:=hid h;have d:=hid (fun w'=>zA x y w')
 have l:=h.lt;have k:=hid j;clear h j;go_enter Tryz.func125,Tryz.ntmps125
 go_wp2_with fail
 refine f.out.mono ?_;rintro e n ⟨rfl,rfl⟩;have i:okE (.ok t:Except (Int × Int) Nat)=true:=rfl;rw[i];clear f i;go_wp2_with fail
 refine(d.out _).mono ?_;rintro e w2 ⟨rfl,hb⟩;have b:=H.out.step hb;have c2:=b.c2;have c3:=b.c3;rw[ztR]at c2;rw[ztS]at c3;have f2:=b.f2;have f3:=b.f3;have g:=b.lt;have m:Hid (TW p a c zs (.error (x,y)) n (.returned (.tuple #[])) ((w2.setCell ⟨p,2,none⟩ (.int .i64 x)).setCell ⟨p,3,none⟩ (.int .i64 y))):=⟨rfl,((Rn.of hb).put 2 _).put 3 _,b.bad k.out⟩;clear b hb d H k;go_wp2;exact bodyPost_ret (v:=.tuple #[]) (by simp[results,Tryz.results125,go_sem]) rfl m.out
theorem Tk.at{p:Nat}{a:Option Addr}{c:Nat}{zs:List Int}{t:Nat}{w:World}(h:Tk p a c zs (.ok t) w):w.cell? ⟨p,1,none⟩=some (.int .i64 (t:Int))/\t<=zs.length:=by
 obtain⟨f,e,b,d⟩:=h.c1;rw[d t rfl];exact⟨e,b⟩
def BoxAt(T:TypeId)(w:World)(a:Nat)(b:List Value):Prop:=w.heap[a]?=some (.cells b.toArray T (0,0))
theorem BoxAt.new(T:TypeId)(w:World)(a:List Value):BoxAt T (w.alloc (.cells a.toArray T)) w.heap.size a:=by
 unfold BoxAt;show(w.heap.push _)[w.heap.size]?=_;rw[Array.getElem?_push_size]
theorem BoxAt.cell{T:TypeId}{w:World}{a:Nat}{b:List Value}(h:BoxAt T w a b){i:Nat}{v:Value}(c:b[i]?=some v):w.cell? ⟨a,i,none⟩=some v:=by
 unfold BoxAt at h;simp[World.cell?,h,c]
theorem BoxAt.fz{T:TypeId}{w:World}{a:Nat}{b:List Value}(h:BoxAt T w a b)(i:Nat):w.frozen? ⟨a,i,none⟩=false:=by
 unfold BoxAt at h;simp[World.frozen?,h]
theorem BoxAt.lt{T:TypeId}{w:World}{a:Nat}{b:List Value}(h:BoxAt T w a b):a<w.heap.size:=(zoj.1 h).1
theorem BoxAt.put{T:TypeId}{w:World}{a:Nat}{b:List Value}(h:BoxAt T w a b)(i:Nat)(v:Value):BoxAt T (w.setCell ⟨a,i,none⟩ v) a (b.set i v):=by
 unfold BoxAt at h ⊢;simp[World.setCell,Array.getElem?_modify,h]
theorem Has.keepVal{k:IntKind}{w:World}{a:Option Addr}{len:Nat}{zs:List Int}(h:Has k w a len zs){q:Addr}{u:Value}(d:w.cell? q=Option.some u)(g:∀n,u≠.int k n)(v:Value):Has k (w.setCell q v) a len zs:=by
 refine⟨h.1,h.2.1,?_⟩;rcases h.2.2 with h|⟨b,off,rfl,c,f⟩
 ·exact .inl h
 ·refine .inr ⟨b,off,rfl,by simpa[World.setCell]using c,fun i hi=>?_⟩
  rw[zou _ _ _ _ (by
   intro e;rw[e,f i hi]at d;exact g _ (zoq d).symm)]
  exact f i hi
theorem Has.blk{k:IntKind}{w w':World}{a:Option Addr}{len:Nat}{zs:List Int}(h:Has k w a len zs)(hs:w.heap.size<=w'.heap.size)(hb:∀ad,a=Option.some ad->w'.heap[ad.block]?=w.heap[ad.block]?):Has k w' a len zs:=by
 refine⟨h.1,h.2.1,?_⟩;rcases h.2.2 with h|⟨b,off,rfl,d,f⟩
 ·exact .inl h
 ·refine .inr ⟨b,off,rfl,zom d hs,fun i hi=>?_⟩
  have e:=hb _ rfl;have c:=f i hi;unfold World.cell? at c ⊢;dsimp only at c e ⊢;rw[e];exact c
theorem Rd.put_far{p:Nat}{a:Option Addr}{c:Nat}{zs:List Int}{t:Nat}{w:World}(h:Rd p a c zs t w){g:Nat}(d:p<g)(o:Nat)(v:Value):Rd p a c zs t (w.setCell ⟨g,o,none⟩ v):=
 ⟨(zou _ _ _ _ (by intro e;simp only[Addr.mk.injEq]at e;omega)).trans h.c0,(zou _ _ _ _ (by intro e;simp only[Addr.mk.injEq]at e;omega)).trans h.c1,(World.frozen?_setCell _ _ _ _).trans h.fz,h.hz.blk (by simp[World.setCell]) (fun ad b=>zop _ _ _ _ (by have:=h.lo ad b;show ad.block≠g;omega)),h.le,h.few,h.lo⟩
structure RSt (p : Nat) (a : Option Addr) (c : Nat) (zs : List Int) (T : TypeId) (bx : Nat) (w0 : World) (u : Nat) (vs : List Value) (w : World) : Prop where
 rd : Rd p a c zs u w
 rn : Rn p w0 w
 box : BoxAt T w bx vs
 new : w0.heap.size <= bx
 ne : bx ≠ p
theorem RSt.start{p:Nat}{a:Option Addr}{c:Nat}{zs:List Int}{u:Nat}{w:World}(h:Rd p a c zs u w)(T:TypeId)(b:List Value):RSt p a c zs T w.heap.size w u b (w.alloc (.cells b.toArray T)):=
 ⟨h.step (ze (zof _ _)),Rn.of (ze (zof _ _)),BoxAt.new T w b,zos _,by have:=zog _ _ h.c0;simp only at this;omega⟩
theorem RSt.read{p:Nat}{a:Option Addr}{c:Nat}{zs:List Int}{T:TypeId}{b:Nat}{w0:World}{u e:Nat}{f:List Value}{w w':World}(h:RSt p a c zs T b w0 u f w)(r:Rn p w w')(d:Rd p a c zs e w'):RSt p a c zs T b w0 e f w':=
 ⟨d,h.rn.trans r,(r.block b h.box.lt h.ne).trans h.box,h.new,h.ne⟩
theorem RSt.put{p:Nat}{a:Option Addr}{c:Nat}{zs:List Int}{T:TypeId}{b:Nat}{w0:World}{u:Nat}{d:List Value}{w:World}(h:RSt p a c zs T b w0 u d w)(i:Nat)(v:Value){o:Value}(j:d[i]?=some o)(f:∀n,o≠.int .u8 n):RSt p a c zs T b w0 u (d.set i v) (w.setCell ⟨b,i,none⟩ v):=by
 have g:=h.box.cell j;refine⟨⟨?_,?_,?_,h.rd.hz.keepVal g f _,h.rd.le,h.rd.few,h.rd.lo⟩,h.rn.put_new h.new i v,h.box.put i v,h.new,h.ne⟩
 ·exact(zou _ _ _ _ (by intro e;simp only[Addr.mk.injEq]at e;exact h.ne e.1)).trans h.rd.c0
 ·exact(zou _ _ _ _ (by intro e;simp only[Addr.mk.injEq]at e;exact h.ne e.1)).trans h.rd.c1
 ·exact(World.frozen?_setCell _ _ _ _).trans h.rd.fz
def zph(zs:List Int)(t:Nat):Except (Int × Int) ((Int × Int × Int) × Nat):=y7 (zo0 zs t) fun v u=>y7 (zo0 zs u) fun m b=>y7 (ke zs b) fun n a=>.ok ((v,m,n),a)
def zuI(x:Int × Int × Int)(_:World)(v:Value):Prop:=v=.agg #[.int .u64 x.1,.int .u64 x.2.1,.int .i64 x.2.2]/\(Lit.int .u64 x.1).wf=true/\(Lit.int .u64 x.2.1).wf=true/\(Lit.int .i64 x.2.2).wf=true
theorem zuJ{p:Nat}{a:Option Addr}{c:Nat}{zs:List Int}{t:Nat}{w:World}(h:Rd p a c zs t w):
 Calls Tryz.prog 148 #[.pointer (some ⟨p,0,none⟩)] w (ka p a c zs zuI (zph zs t) w):=by
 obtain⟨O,eW⟩:∃O,O=w.alloc (.cells #[.int .u64 0,.int .u64 0,.int .i64 0] 98):=⟨_,rfl⟩;obtain⟨bx,ebx⟩:∃b,b=w.heap.size:=⟨_,rfl⟩;have M:Hid (RSt p a c zs 98 bx w t [.int .u64 0,.int .u64 0,.int .i64 0] O):=by rw[eW,ebx];exact RSt.start h _ _
 have T:=hid (zqT M.out.rd);have V:=hid eW;have X:=hid ebx;clear h eW ebx;go_enter Tryz.func148,Tryz.ntmps148
 go_wp2_with fail
 rw[<-V.out,<-X.out];clear V X;refine T.out.mono ?_;rintro e w2 ⟨r,f⟩;cases j:zo0 zs t with
 |error e=>
  rw[j]at f;obtain rfl:=f;exact yl (P:=Tryz.prog) (fn:=Tryz.f148) (by unfold zph;rw[j];exact⟨M.out.rn.trans r,rfl⟩) rfl
 |ok y=>
  obtain⟨o,u1⟩:=y;rw[j]at f;obtain⟨_,rfl,⟨rfl,G⟩,f⟩:=f;have B:=M.out.read r f;have W:=B.box.cell (i:=0) rfl;have z0:=B.box.fz 0;have l0:=B.box.lt;obtain⟨N,eW3⟩:∃N,N=w2.setCell ⟨bx,0,none⟩ (.int .u64 o):=⟨_,rfl⟩;have J:Hid (RSt p a c zs 98 bx w u1 [.int .u64 o,.int .u64 0,.int .i64 0] N):=by rw[eW3];exact B.put 0 _ rfl (fun n h=>by cases h)
  have H:=hid (zqT J.out.rd);have Y:=hid eW3;have L:=hid j;have D:=hid G;clear T r f M B eW3 j G;go_wp2_with fail
  rw[<-Y.out];clear Y W z0 l0;refine H.out.mono ?_;rintro e w4 ⟨q,g⟩;cases k:zo0 zs u1 with
  |error e=>
   rw[k]at g;obtain rfl:=g;exact yl (P:=Tryz.prog) (fn:=Tryz.f148) (by unfold zph;rw[L.out];unfold y7;dsimp only;rw[k];exact⟨J.out.rn.trans q,rfl⟩) rfl
  |ok y=>
   obtain⟨u,u2⟩:=y;rw[k]at g;obtain⟨_,rfl,⟨rfl,E⟩,g⟩:=g;have I:=J.out.read q g;have Z:=I.box.cell (i:=1) rfl;have z1:=I.box.fz 1;have l1:=I.box.lt;obtain⟨S,eW5⟩:∃S,S=w4.setCell ⟨bx,1,none⟩ (.int .u64 u):=⟨_,rfl⟩;have K:Hid (RSt p a c zs 98 bx w u2 [.int .u64 o,.int .u64 u,.int .i64 0] S):=by rw[eW5];exact I.put 1 _ rfl (fun n h=>by cases h)
   have A:=hid (zpb K.out.rd);have U:=hid eW5;have R:=hid k;have F:=hid E;clear H q g J I eW5 k E;go_wp2_with fail
   rw[<-U.out];clear U Z z1 l1;refine A.out.mono ?_;rintro e w6 ⟨s,d⟩;cases l:ke zs u2 with
   |error e=>
    rw[l]at d;obtain rfl:=d;exact yl (P:=Tryz.prog) (fn:=Tryz.f148) (by unfold zph;rw[L.out];unfold y7;dsimp only;rw[R.out];dsimp only;rw[l];exact⟨K.out.rn.trans s,rfl⟩) rfl
   |ok y=>
    obtain⟨x,u3⟩:=y;rw[l]at d;obtain⟨_,rfl,⟨rfl,C⟩,d⟩:=d;have m:=K.out.read s d;have W:=m.box.cell (i:=0) rfl;have Z:=m.box.cell (i:=1) rfl;have b2:=m.box.cell (i:=2) rfl;have z0:=m.box.fz 0;have z1:=m.box.fz 1;have z2:=m.box.fz 2;have l2:=m.box.lt;have Q:=(((m.put 2 (.int .i64 x) rfl (fun n h=>by cases h)).put 0 (.int .u64 o) rfl (fun n h=>by cases h)).put 1 (.int .u64 u) rfl (fun n h=>by cases h)).put 2 (.int .i64 x) rfl (fun n h=>by cases h)
    have HE:Hid (ka p a c zs zuI (zph zs t) w (.returned (.agg #[.int .u64 o,.int .u64 u,.int .i64 x])) ((((w6.setCell ⟨bx,2,none⟩ (.int .i64 x)).setCell ⟨bx,0,none⟩ (.int .u64 o)).setCell ⟨bx,1,none⟩ (.int .u64 u)).setCell ⟨bx,2,none⟩ (.int .i64 x))):=by
     show ka _ _ _ _ _ _ _ _ _;unfold zph;rw[L.out];unfold y7;dsimp only;rw[R.out];dsimp only;rw[l];exact⟨Q.rn,_,rfl,⟨rfl,D.out,F.out,C⟩,Q.rd⟩
    clear A s d l C K m Q L R D F;go_wp2;exact bodyPost_ret (v:=.agg #[.int .u64 o,.int .u64 u,.int .i64 x]) (by simp[results,Tryz.results148,go_sem, *]) rfl HE.out
def RowK{α :Type}(enc: α->List Value)(k:Nat)(T:TypeId)(m:Nat)(w:World)(g:Nat)(b:List α):Prop:=
 ∃a:Array Value,w.heap[g]?=some (.cells a T (0,0))/\a.size=m*k/\∀j x,b[j]?=some x->∀l u,(enc x)[l]?=some u->a[j*k+l]?=some u
theorem RowK.some{α :Type}{enc: α->List Value}{k:Nat}{T:TypeId}{m:Nat}{w:World}{g:Nat}{c:List α}(h:RowK enc k T m w g c){o:Nat}(b:o<m*k):∃v,w.cell? ⟨g,o,none⟩=some v:=by
 obtain⟨a,e,d,_⟩:=h;refine⟨a[o]'(by omega),?_⟩
 simp[World.cell?,e,d,b]
theorem RowK.fz{α :Type}{enc: α->List Value}{k:Nat}{T:TypeId}{m:Nat}{w:World}{g:Nat}{a:List α}(h:RowK enc k T m w g a)(o:Nat):w.frozen? ⟨g,o,none⟩=false:=by
 obtain⟨b,c,_⟩:=h;simp[World.frozen?,c]
theorem RowK.lt{α :Type}{enc: α->List Value}{k:Nat}{T:TypeId}{m:Nat}{w:World}{g:Nat}{a:List α}(h:RowK enc k T m w g a):g<w.heap.size:=by
 obtain⟨b,c,_⟩:=h;exact(zoj.1 c).1
theorem RowK.rn{α :Type}{enc: α->List Value}{k:Nat}{T:TypeId}{m:Nat}{w w':World}{g p:Nat}{b:List α}(h:RowK enc k T m w g b)(r:Rn p w w')(e:g≠p):RowK enc k T m w' g b:=by
 have c:=h.lt;obtain⟨a,f,d⟩:=h;exact⟨a,(r.block g c e).trans f,d⟩
theorem RowK.put{α :Type}{enc: α->List Value}{k:Nat}{T:TypeId}{m:Nat}{w:World}{g:Nat}{a:List α}(h:RowK enc k T m w g a)(q:∀x,(enc x).length=k)(o:Nat)(v:Value)(y:a.length*k<=o)(r:o<m*k):RowK enc k T m (w.setCell ⟨g,o,none⟩ v) g a/\(w.setCell ⟨g,o,none⟩ v).cell? ⟨g,o,none⟩=Option.some v:=by
 have f:=h.some r;obtain⟨c,t,n,e⟩:=h;refine⟨⟨c.setIfInBounds o v,by simp[World.setCell,Array.getElem?_modify,t],by simpa using n,fun j x d l u b=>?_⟩,?_⟩
 ·have i:j<a.length:=(zok.1 d).1;have A:l<k:=by have:=(zok.1 b).1;rw[q]at this;exact this
  have s:(j+1)*k<=a.length*k:=Nat.mul_le_mul_right k i;rw[Nat.add_mul,Nat.one_mul]at s;rw[Array.getElem?_setIfInBounds_ne (by omega)]
  exact e j x d l u b
 ·obtain⟨u,b⟩:=f;exact zot _ _ _ b
theorem RowK.more{α :Type}{enc: α->List Value}{k:Nat}{T:TypeId}{m:Nat}{w:World}{g:Nat}{b:List α}(h:RowK enc k T m w g b)(x: α)(q:∀l u,(enc x)[l]?=Option.some u->w.cell? ⟨g,b.length*k+l,none⟩=Option.some u):RowK enc k T m w g (b++[x]):=by
 obtain⟨e,i,o,n⟩:=h;refine⟨e,i,o,fun j y a l u f=>?_⟩
 rcases Nat.lt_or_ge j b.length with d|d
 ·rw[zoL d]at a;exact n j y a l u f
 ·rw[zoO d]at a;have c:j=b.length:=by
   have:=(zok.1 a).1;simp at this;omega
  subst c;rw[Nat.sub_self]at a;simp only[List.getElem?_cons_zero,zoo]at a;subst a;have:=q l u f;simpa[World.cell?,i]using this
theorem RowK.new{α :Type}(enc: α->List Value)(k:Nat)(T:TypeId)(m:Nat)(w:World)(a:Array Value)(c:a.size=m*k):RowK enc k T m (w.alloc (.cells a T)) w.heap.size []:=by
 refine⟨a,?_,c,fun j x b=>by simp at b⟩
 show(w.heap.push _)[w.heap.size]?=_;rw[Array.getElem?_push_size]
def EqL{α :Type}(R: α->α->Prop)(S T:List α):Prop:=S.length=T.length/\∀(i:Nat) (x y: α),S[i]?=some x->T[i]?=some y->R x y
def zqf(c:Bool)(x y:PushD):Prop:=x.op=y.op/\((c=false\/x.op=1)->x.n=y.n)/\((c=false\/x.op=2)->x.r=y.r)
def zsp(c:Bool)(x y:PState):Prop:=x.head=y.head/\x.els=y.els/\x.cs=y.cs/\((c=false\/0<x.cs.length)->x.r=y.r)
def zu8(c:Bool)(x y:POp):Prop:=x.kind=y.kind/\((c=false\/x.kind=1\/x.kind=6)->x.r=y.r)/\((c=false\/x.kind=2\/x.kind=3\/x.kind=6)->x.head=y.head)/\((c=false\/x.kind=1\/x.kind=5)->EqL (zqf c) x.es y.es)
def zu9(c:Bool)(x y:PAct):Prop:=x.ws=y.ws/\EqL (zu8 c) x.os y.os
def zs9(c:Bool)(x y:PNode):Prop:=x.kind=y.kind/\x.yes=y.yes/\((c=false\/x.kind≠3)->x.n=y.n)/\((c=false\/x.kind=3)->EqL (zqf c) x.es y.es)/\((c=false\/x.kind=3\/x.kind=4)->x.no=y.no)
structure zr5 (c : Bool) (p q : PPlan) : Prop where
 hs : p.hs = q.hs
 ms : p.ms = q.ms
 ss : EqL (zsp c) p.ss q.ss
 al : EqL (zu9 c) p.al q.al
 ts : p.ts = q.ts
 ns : EqL (zs9 c) p.ns q.ns
 os : p.os = q.os
theorem zp5{α :Type}{R: α->α->Prop}(h:∀x,R x x)(S:List α):EqL R S S:=⟨rfl,fun i x y b a=>by rw[b]at a;cases a;exact h x⟩
theorem zqJ(c:Bool)(x:PushD):zqf c x x:=⟨rfl,fun _=>rfl,fun _=>rfl⟩
theorem zqK(c:Bool)(p:PPlan):zr5 c p p:=
 ⟨rfl,rfl,zp5 (fun _=>⟨rfl,rfl,rfl,fun _=>rfl⟩) _,zp5 (fun _=>⟨rfl,zp5 (fun _=>⟨rfl,fun _=>rfl,fun _=>rfl,fun _=>zp5 (zqJ c) _⟩) _⟩) _,rfl,zp5 (fun _=>⟨rfl,rfl,fun _=>rfl,fun _=>zp5 (zqJ c) _,fun _=>rfl⟩) _,rfl⟩
theorem EqL.at{α β :Type}{R: β->β->Prop}{f: α->β}{S T:List α}(h:EqL R (S.map f) (T.map f)){i:Nat}{x y: α}(a:S[i]?=some x)(b:T[i]?=some y):R (f x) (f y):=
 h.2 i _ _ (by rw[zoy,a];rfl) (by rw[zoy,b];rfl)
theorem zah(d:PlanD)(n to:Int)(w:World):Calls Tryz.prog 67 #[d.v,.int .i64 n,.int .i64 to] w fun e w'=>e=.returned (.int .i64 (yF d.states.n n to))/\Below w.heap.size w w':=by
 have g:∀o,Below w.heap.size w (w.alloc o):=fun o=>ze (zof _ _)
 by_cases c:to=1000
 ·subst c;have b:Hid (yF d.states.n n 1000=0):=by simp[Hid,yF]
  go_enter Tryz.func67,Tryz.ntmps67
  go_wp2;go_ret;exact⟨by rw[b.out];rfl,g _⟩
 by_cases f:to=1001
 ·subst f;have b:Hid (yF d.states.n n 1001=0):=by simp[Hid,yF]
  go_enter Tryz.func67,Tryz.ntmps67
  go_wp2;go_ret;exact⟨by rw[b.out];rfl,g _⟩
 have r:(to==1000)=false:=by simpa using c
 have s:(to==1001)=false:=by simpa using f
 have a:¬(to=1000\/to=1001):=fun h=>h.elim c f
 by_cases k:to<0
 ·have q:=zoY k;have b:Hid (yF d.states.n n to=1):=by show yF _ _ _=1;unfold yF;rw[if_neg a,if_pos (by omega)]
  clear c f a;go_enter Tryz.func67,Tryz.ntmps67
  go_wp2;go_ret;exact⟨by rw[b.out];rfl,g _⟩
 have q:=zoX k;by_cases j:(d.states.n:Int)<=to
 ·have m:=zoY j;have b:Hid (yF d.states.n n to=1):=by show yF _ _ _=1;unfold yF;rw[if_neg a,if_pos (by omega)]
  clear c f a;go_enter Tryz.func67,Tryz.ntmps67
  go_wp2;go_ret;exact⟨by rw[b.out];rfl,g _⟩
 have m:=zoX j;by_cases i:to<=n
 ·have l:=zoY i;have b:Hid (yF d.states.n n to=11):=by show yF _ _ _=11;unfold yF;rw[if_neg a,if_neg (by omega),if_pos i]
  clear c f a;go_enter Tryz.func67,Tryz.ntmps67
  go_wp2;go_ret;exact⟨by rw[b.out];rfl,g _⟩
 ·have l:=zoX i;have b:Hid (yF d.states.n n to=0):=by show yF _ _ _=0;unfold yF;rw[if_neg a,if_neg (by omega),if_neg i]
  clear c f a;go_enter Tryz.func67,Tryz.ntmps67
  go_wp2;go_ret;exact⟨by rw[b.out];rfl,g _⟩
theorem qE(d:PlanD)(k:Int)(w:World):Calls Tryz.prog 29 #[d.v,.int .i64 k] w fun e w'=>e=.returned (.bool (decide (0<=k/\k<(d.heads.n:Int))))/\Below w.heap.size w w':=by
 have f:∀o,Below w.heap.size w (w.alloc o):=fun o=>ze (zof _ _)
 by_cases b:0<=k
 ·have g:=zoY b;by_cases c:k<(d.heads.n:Int)
  ·have i:=zoY c;have a:=hid (zoY (⟨b,c⟩:0<=k/\k<(d.heads.n:Int)));go_enter Tryz.func29,Tryz.ntmps29
   go_wp2;go_ret;exact⟨by first|rfl|(rw[a.out];rfl),f _⟩
  ·have i:=zoX c;have a:=hid (zoX (fun h=>c h.2:¬(0<=k/\k<(d.heads.n:Int))))
   go_enter Tryz.func29,Tryz.ntmps29
   go_wp2;go_ret;exact⟨by first|rfl|(rw[a.out];rfl),f _⟩
 ·have g:=zoX b;have a:=hid (zoX (fun h=>b h.1:¬(0<=k/\k<(d.heads.n:Int))))
  go_enter Tryz.func29,Tryz.ntmps29
  go_wp2;go_ret;exact⟨by first|rfl|(rw[a.out];rfl),f _⟩
theorem zig{p:PPlan}{r:RefD}(h:r.h< -1)(a:r.h≠-3):p.width r []=0:=by
 have:p.fields r.h []=[]:=by
  unfold PPlan.fields;rw[if_neg (by omega)]
  split
  ·rfl
  ·first|rw[if_pos (by omega)]|rw[if_neg a,if_pos (by omega)]
 unfold PPlan.width;rw[this];simp
theorem zf5{p:PPlan}{r:RefD}(c:0<=p.width r []):(-1<=r.h/\0<p.width r [])↔zR p r=0:=by
 unfold zR;constructor
 ·rintro⟨a,b⟩;rw[if_neg (by omega)]
 ·intro h;by_cases a:r.h= -3\/p.width r []=0
  ·rw[if_pos a]at h;omega
  ·refine⟨?_,by omega⟩
   apply Classical.byContradiction
   intro b;exact a (.inr (zig (by omega) (fun e=>a (.inl e))))
theorem zf6(d:PlanD)(r:RefD)(w:World)(j:d.lie w)(m:0<=d.p.width r []):
 Calls Tryz.prog 110 #[d.v,.agg #[.int .i64 r.h,.int .i64 r.f]] w fun e w'=>e=.returned (.bool (decide (zR d.p r=0)))/\Below w.heap.size w w':=by
 have a:∀o b,Below w.heap.size w ((w.alloc o).alloc b):=fun o b=>ze (ze (zof _ _))
 have i:Hid (∀o b,Calls Tryz.prog 65 #[d.v,.agg #[.int .i64 r.h,.int .i64 r.f],.slice none 0 0] ((w.alloc o).alloc b) fun e w'=>e=.returned (.int .i64 (d.p.width r []))/\Below ((w.alloc o).alloc b).heap.size ((w.alloc o).alloc b) w'):=fun o b=>by
  rw[<-qD j];exact jI d r.h r.f none 0 0 [] _ (j.step (a o b)) (zW _ _)
 have g:=hid (zf5 m);have l:=hid a;clear j m;by_cases c: -1<=r.h
 ·have n:=zoY c;have k:Hid (decide (zR d.p r=0)=decide (0<d.p.width r [])):=decide_eq_decide.2 ⟨fun h=>(g.out.2 h).2,fun h=>g.out.1 ⟨c,h⟩⟩
  clear c a;go_enter Tryz.func110,Tryz.ntmps110
  go_wp2_with fail
  refine(i.out _ _).mono ?_;rintro e s ⟨rfl,hb⟩;have q:=hid (zh (l.out _ _) hb);clear i hb l;go_wp2;go_ret;exact⟨by rw[k.out];rfl,q.out⟩
 ·have n:=zoX c;have k:Hid (decide (zR d.p r=0)=false):=zoX (fun h=>c (g.out.2 h).1)
  clear c i;go_enter Tryz.func110,Tryz.ntmps110
  go_wp2;go_ret;exact⟨by rw[k.out];rfl,a _ _⟩
abbrev PO(d:PlanD):Obj:=.cells #[.slice d.heads.a d.heads.n d.heads.c,.slice d.mta.a d.mta.n d.mta.c,.slice d.states.a d.states.n d.states.c,.slice d.acts.a d.acts.n d.acts.c,.slice d.tabs.a d.tabs.n d.tabs.c,.slice d.nodes.a d.nodes.n d.nodes.c,.slice d.out.a d.out.n d.out.c] 29
theorem zf7{d:PlanD}{w wr:World}(hb:Below (w.heap.size+1) (w.alloc (PO d)) wr)(i:Nat):wr.cell? ⟨w.heap.size,i,none⟩=(#[.slice d.heads.a d.heads.n d.heads.c,.slice d.mta.a d.mta.n d.mta.c,.slice d.states.a d.states.n d.states.c,.slice d.acts.a d.acts.n d.acts.c,.slice d.tabs.a d.tabs.n d.tabs.c,.slice d.nodes.a d.nodes.n d.nodes.c,.slice d.out.a d.out.n d.out.c]:Array Value)[i]?:=
 (hb.cell (p:=⟨w.heap.size,i,none⟩) (by simp)).trans (zod _ _ _ _ rfl)
theorem zeX(d:PlanD)(e:QSl)(es:List PushD)(aa:Option Addr)(an ac:Nat)(zs:List Int)(w:World)(hl:d.lie w)(he:QRow 4 PushD.lie w e es)(hz:Has .i64 w aa an zs):
 Calls Tryz.prog 70 #[d.v,.slice e.a e.n e.c,.slice aa an ac] w (qg d.p es zs w):=by
 have P:=he.1;by_cases h8:(8:Int)<(e.n:Int)
 ·have HE:Hid (∀w',Below w.heap.size w w'->qg d.p es zs w (.returned (.int .i64 2)) w'):=fun w' hb=>⟨by rw[xl,if_pos (by omega)],hb⟩
  have d8:=zoY h8;clear hl he hz P;go_enter Tryz.func70,Tryz.ntmps70
  go_wp2;go_ret;exact HE.out _ (ze (zof _ _))
 have d8:=zoX h8;have HX:Hid (xl d.p es zs=zN d.p zs es 0):=by show xl d.p es zs=_;rw[xl,if_neg (by omega)]
 have HD:Hid (∀w' R,zN d.p zs es 0=R->Below w.heap.size w w'->qg d.p es zs w (.returned (.int .i64 R)) w'):=fun w' R h hb=>⟨by rw[HX.out,h],hb⟩
 obtain⟨ea,ee⟩:∃ea,e.a=ea:=⟨_,rfl⟩;have HL:=hid hl;have HE:=hid he;have HZ:=hid hz;have HN:=hid P;have a9:Hid (Below (w.heap.size+1) (w.alloc (PO d)) (w.alloc (PO d))):=zof _ _;rw[ee];have EE:=hid ee;clear hl he hz P HX ee;go_enter Tryz.func70,Tryz.ntmps70
 go_wp2;go_loopw [8,7,9] (fun q l _ wr=>∃k:Nat,∃left:Int,k<=e.n/\q=.int .i64 k/\l=.int .i64 left/\0<=left/\left<=k/\Hid (zN d.p zs es 0=zN d.p zs (es.drop k) left)/\Hid (Below (w.heap.size+1) (w.alloc (PO d)) wr)) (fun q _ _ _=>e.n-(intOf q).toNat)
 case atStart=>exact⟨0,0,zon _,rfl,rfl,Int.le_refl _,by simp,rfl,a9⟩
 case round=>
  obtain⟨k,left,hk,rfl,rfl,b5,b4,j,hb⟩:=hrel;clear a9;have B0:Hid (Below w.heap.size w wr):=(ze (zof w.heap.size w)).trans (hb.out.mono (by omega))
  by_cases b0:k<e.n
  ·obtain⟨g,off,x,a8,hx,⟨L,_⟩,⟨Q,_⟩,⟨D,_⟩,⟨r3,_⟩⟩:=zu (HE.out.step PushD.keeps B0.out) b0;obtain rfl:ea=some ⟨g,off,none⟩:=by rw[<-EE.out];exact a8
   have b3:(k:Int)<(e.n:Int):=by omega
   have m:=zdD (p:=d.p) (zs:=zs) hx left;have t:=zf7 hb.out;have H:wr.cell? ⟨w.heap.size,0,none⟩=some (.slice d.heads.a d.heads.n d.heads.c):=t 0;have O:wr.cell? ⟨w.heap.size,1,none⟩=some (.slice d.mta.a d.mta.n d.mta.c):=t 1;have K:wr.cell? ⟨w.heap.size,2,none⟩=some (.slice d.states.a d.states.n d.states.c):=t 2;have E:wr.cell? ⟨w.heap.size,3,none⟩=some (.slice d.acts.a d.acts.n d.acts.c):=t 3;have J:wr.cell? ⟨w.heap.size,4,none⟩=some (.slice d.tabs.a d.tabs.n d.tabs.c):=t 4;have G:wr.cell? ⟨w.heap.size,5,none⟩=some (.slice d.nodes.a d.nodes.n d.nodes.c):=t 5;have M:wr.cell? ⟨w.heap.size,6,none⟩=some (.slice d.out.a d.out.n d.out.c):=t 6;have o:Hid (Calls Tryz.prog 111 #[.int .i64 x.op] wr fun q A=>q=.returned (.int .i64 (yk x.op))/\Below wr.heap.size wr A):=zfe x.op wr
   have i:Hid (∀w',Below wr.heap.size wr w'->Calls Tryz.prog 65 #[d.v,.agg #[.int .i64 x.r.h,.int .i64 x.r.f],.slice aa an ac] w' fun q A=>q=.returned (.int .i64 (d.p.width x.r zs))/\Below w'.heap.size w' A):=fun w' h=>by
    rw[<-qD HL.out];exact jI d x.r.h x.r.f aa an ac zs _ (HL.out.step (zh B0.out h)) (HZ.out.step (zh B0.out h))
   have y:Hid (∀U,Below wr.heap.size wr U->Below (w.heap.size+1) (w.alloc (PO d)) U):=fun U h=>hb.out.trans (h.mono (by have:=hb.out.size;simpa using this))
   have hT:=zb4 x.op;clear t a8;generalize yk x.op=T at*;by_cases a6:T<0
   ·have f0:=zoY a6;have S:Hid (zN d.p zs es 0=13):=by show zN d.p zs es 0=13;rw[j.out,m,if_pos (.inl a6)]
    clear m i y j;go_wp2_with fail
    refine o.out.mono ?_;rintro q U ⟨rfl,b⟩;have B:=hid (zh B0.out b);clear o b;go_wp2;go_ret;exact HD.out _ _ S.out B.out
   have f0:=zoX a6;by_cases a7:left<T
   ·have f1:=zoY a7;have S:Hid (zN d.p zs es 0=13):=by show zN d.p zs es 0=13;rw[j.out,m,if_pos (.inr a7)]
    clear m i y j;go_wp2_with fail
    refine o.out.mono ?_;rintro q U ⟨rfl,b⟩;have B:=hid (zh B0.out b);clear o b;go_wp2;go_ret;exact HD.out _ _ S.out B.out
   have f1:=zoX a7;rw[if_neg (show¬(T<0\/left<T)by omega)]at m
   by_cases h2:x.op=2
   ·have b2:(x.op==2)=true:=by simpa using h2
    by_cases C:d.p.width x.r zs=0
    ·have S:Hid (zN d.p zs es 0=1):=by show zN d.p zs es 0=1;rw[j.out,m,if_pos ⟨h2,C⟩]
     rw[C]at i;clear m y j h2 C;go_wp2_with fail
     refine o.out.mono ?_;rintro q U ⟨rfl,b⟩;have L:=za L b;have Q:=za Q b;have D:=za D b;have H:=za H b;have O:=za O b;have K:=za K b;have E:=za E b;have J:=za J b;have G:=za G b;have M:=za M b;have a5:=zm L;have a3:=zm Q;have V:=zm D;have Z:=zm H;have W:=zm O;have Y:=zm K;have a1:=zm E;have a0:=zm J;have a2:=zm G;have a4:=zm M;have i:Hid (∀p:zq U,Calls Tryz.prog 65 #[d.v,.agg #[.int .i64 x.r.h,.int .i64 x.r.f],.slice aa an ac] p.to fun q A=>q=.returned (.int .i64 0)/\Below p.to.heap.size p.to A):=fun p=>i.out p.to (zh b p.h)
     have B:=hid (zh B0.out b);clear o b;go_wp2_with fail
     haveI inhB:∀w:World,Inhabited (zq w):=fun w=>⟨⟨w,zof _ _⟩⟩
     refine zi (by kernel_rfl) (by kernel_rfl) ?_
     repeat (go_big_quiet_step (first|(go_at_call 65;exact zT _ (i.out _))))
     refine wpQuiet_nil ?_;intro wq I;obtain⟨⟨_,u⟩,s⟩:=I;subst s;have N:=hid (zh B.out u);clear i u B;go_wp2;go_ret;exact HD.out _ _ S.out N.out
    ·have HG:Hid (zN d.p zs es 0=zN d.p zs (es.drop (k+1)) (left-T+1)):=by show zN d.p zs es 0=_;rw[j.out,m,if_neg (fun h=>C h.2)];congr 1;omega
     have b6:(d.p.width x.r zs==0)=false:=by simpa using C
     generalize d.p.width x.r zs=X at*;clear m j h2 C;go_wp2_with fail
     refine o.out.mono ?_;rintro q U ⟨rfl,b⟩;have L:=za L b;have Q:=za Q b;have D:=za D b;have H:=za H b;have O:=za O b;have K:=za K b;have E:=za E b;have J:=za J b;have G:=za G b;have M:=za M b;have a5:=zm L;have a3:=zm Q;have V:=zm D;have Z:=zm H;have W:=zm O;have Y:=zm K;have a1:=zm E;have a0:=zm J;have a2:=zm G;have a4:=zm M;have i:Hid (∀p:zq U,Calls Tryz.prog 65 #[d.v,.agg #[.int .i64 x.r.h,.int .i64 x.r.f],.slice aa an ac] p.to fun q A=>q=.returned (.int .i64 X)/\Below p.to.heap.size p.to A):=fun p=>i.out p.to (zh b p.h)
     have F:=hid b;clear o b;go_wp2_with fail
     haveI inhB:∀w:World,Inhabited (zq w):=fun w=>⟨⟨w,zof _ _⟩⟩
     refine zi (by kernel_rfl) (by kernel_rfl) ?_
     repeat (go_big_quiet_step (first|(go_at_call 65;exact zT _ (i.out _))))
     refine wpQuiet_nil ?_;intro wq I;obtain⟨⟨_,u⟩,s⟩:=I;subst s;have N:=hid (y.out _ (zh F.out u));clear i u F y L Q D r3 H O K E J G M a5 a3 V Z W Y a1 a0 a2 a4;go_wp2;go_roundw
     case rel=>exact⟨k+1,left-T+1,by omega,by go_num,by go_num,by omega,by omega,HG,N⟩
     case measure=>simp[intOf];omega
   ·have b2:(x.op==2)=false:=by simpa using h2
    have HG:Hid (zN d.p zs es 0=zN d.p zs (es.drop (k+1)) (left-T+1)):=by show zN d.p zs es 0=_;rw[j.out,m,if_neg (fun h=>h2 h.1)];congr 1;omega
    clear m j h2 i;go_wp2_with fail
    refine o.out.mono ?_;rintro q U ⟨rfl,b⟩;have L:=za L b;have Q:=za Q b;have D:=za D b;have H:=za H b;have O:=za O b;have K:=za K b;have E:=za E b;have J:=za J b;have G:=za G b;have M:=za M b;have a5:=zm L;have a3:=zm Q;have V:=zm D;have Z:=zm H;have W:=zm O;have Y:=zm K;have a1:=zm E;have a0:=zm J;have a2:=zm G;have a4:=zm M;have F:=hid b;clear o b;go_wp2_with fail
    haveI inhB:∀w:World,Inhabited (zq w):=fun w=>⟨⟨w,zof _ _⟩⟩
    refine zi (by kernel_rfl) (by kernel_rfl) ?_
    repeat (go_big_quiet_step (fail))
    refine wpQuiet_nil ?_;intro wq I;obtain⟨⟨_,u⟩,s⟩:=I;subst s;have N:=hid (y.out _ (zh F.out u));clear u F y L Q D r3 H O K E J G M a5 a3 V Z W Y a1 a0 a2 a4;go_wp2;go_roundw
    case rel=>exact⟨k+1,left-T+1,by omega,by go_num,by go_num,by omega,by omega,HG,N⟩
    case measure=>simp[intOf];omega
  ·have ek:k=e.n:=by omega
   have S:Hid (zN d.p zs es 0=if left≠1 then 13 else 0):=by
    show zN d.p zs es 0=_;rw[j.out,ek,<-HN.out,zoP];rfl
   clear j hb;by_cases h1:left=1
   ·subst h1;subst ek;rw[if_neg (by simp)]at S
    go_wp2;go_ret;exact HD.out _ _ S.out B0.out
   ·rw[if_pos h1]at S;have b1:(left !=1)=true:=by simpa using h1
    subst ek;go_wp2;go_ret;exact HD.out _ _ S.out B0.out
def Yes(w:World)(e:Ending)(w':World):Prop:=e=.returned (.bool true)/\Below w.heap.size w w'
theorem zqv(c:Bool)(s t:QSl)(S T:List PushD)(w:World)(hs:QRow 4 PushD.lie w s S)(D:QRow 4 PushD.lie w t T)(F:EqL (zqf c) S T)(hm:s.n<=100000):
 Calls Tryz.prog 81 #[.slice s.a s.n s.c,.slice t.a t.n t.c,.bool c] w (Yes w):=by
 have G:t.n=s.n:=by rw[<-hs.1,<-D.1];exact F.1.symm
 rw[G];have R:=hid hs;have W:=hid D;have X:=hid G;have Q:=hid F;have H:((s.n:Int) !=(s.n:Int))=false:=by simp
 obtain⟨B,esa⟩:∃B,s.a=B:=⟨_,rfl⟩;obtain⟨I,eta⟩:∃I,t.a=I:=⟨_,rfl⟩;rw[esa,eta];have J:=hid esa;have E:=hid eta;clear hs D G F esa eta;go_enter Tryz.func81,Tryz.ntmps81
 go_wp2;go_loopw [7,8,9] (fun q _ _ wr=>∃k:Nat,k<=s.n/\q=.int .i64 k/\Hid (Below w.heap.size w wr)) (fun q _ _ _=>s.n-(intOf q).toNat)
 case atStart=>exact⟨0,zon _,rfl,zof _ _⟩
 case round=>
  obtain⟨k,hk,rfl,hb⟩:=hrel;by_cases o:k<s.n
  ·have C:(k:Int)<(s.n:Int):=by omega
   obtain⟨l,o1,x,A,M,⟨O,_⟩,⟨V,_⟩,⟨U,_⟩,⟨Y,_⟩⟩:=zu (R.out.step PushD.keeps hb.out) o;obtain⟨u,o2,y,j,N,⟨L,_⟩,⟨P,_⟩,⟨Z,_⟩,⟨y3,_⟩⟩:=zu (W.out.step PushD.keeps hb.out) (show k<t.n by rw[X.out];exact o)
   obtain rfl:B=some ⟨l,o1,none⟩:=by rw[<-J.out];exact A
   obtain rfl:I=some ⟨u,o2,none⟩:=by rw[<-E.out];exact j
   obtain⟨K,q1,q2⟩:=Q.out.2 k x y M N;rw[<-K]at L;have d:=hid q1;have e:=hid q2;clear A j M N K q1 q2;go_wp2_with fail
   go_region_held3 (fun w'=>w'.cell? ⟨l,o1+k*4,none⟩=some (.int .i64 x.op)/\w'.cell? ⟨l,o1+k*4+1,none⟩=some (.int .i64 x.r.h)/\w'.cell? ⟨l,o1+k*4+2,none⟩=some (.int .i64 x.r.f)/\w'.cell? ⟨l,o1+k*4+3,none⟩=some (.int .u64 x.n)/\w'.cell? ⟨u,o2+k*4,none⟩=some (.int .i64 x.op)/\w'.cell? ⟨u,o2+k*4+1,none⟩=some (.int .i64 y.r.h)/\w'.cell? ⟨u,o2+k*4+2,none⟩=some (.int .i64 y.r.f)/\w'.cell? ⟨u,o2+k*4+3,none⟩=some (.int .u64 y.n)) (go_keep) (fail)
   all_goals
    clear O V U Y L P Z y3 H;cases c with
    |false=>
     have m:=d.out (.inl rfl);have g:=e.out (.inl rfl);rw[<-m,<-g];clear d e m g;go_wp2;go_roundw
     case rel=>exact⟨k+1,by omega,by go_num,(ze (ze hb.out)).drew⟩
     case measure=>simp[intOf];omega
    |true=>
     by_cases b:x.op=1
     ·have A:(x.op==1)=true:=by simpa using b
      have j:(x.op==2)=false:=by rw[b];rfl
      have m:=d.out (.inr b);rw[<-m];clear d e m b;go_wp2;go_roundw
      case rel=>exact⟨k+1,by omega,by go_num,(ze (ze hb.out)).drew⟩
      case measure=>simp[intOf];omega
     ·have A:(x.op==1)=false:=by simpa using b
      by_cases i:x.op=2
      ·have j:(x.op==2)=true:=by simpa using i
       have g:=e.out (.inr i);rw[<-g];clear d e g b i;go_wp2;go_roundw
       case rel=>exact⟨k+1,by omega,by go_num,(ze (ze hb.out)).drew⟩
       case measure=>simp[intOf];omega
      ·have j:(x.op==2)=false:=by simpa using i
       clear d e b i;go_wp2;go_roundw
       case rel=>exact⟨k+1,by omega,by go_num,(ze (ze hb.out)).drew⟩
       case measure=>simp[intOf];omega
  ·have C:¬(k:Int)<(s.n:Int):=by omega
   go_wp2;go_ret;exact⟨rfl,hb.out⟩
theorem zr6{w:World}{a b:Option Addr}{m:Nat}{ps:List Int}(c d:Nat)(A:m<=100000)(ha:Has .i64 w a m ps)(hb:Has .i64 w b m ps):
 Calls Tryz.prog 34 #[.slice a m c,.slice b m d] w fun e w'=>e=.returned (.bool true)/\∃s,w'=w.drewN s:=by
 have o:((m:Int) !=(m:Int))=false:=by simp
 go_enter Tryz.func34,Tryz.ntmps34
 go_wp2;go_loopw [5] (fun q wr=>∃k:Nat,k<=m/\q=.int .i64 k/\Hid (∃s,wr=w.drewN s)) (fun q _=>m-(intOf q).toNat)
 case atStart=>exact⟨0,zon _,rfl,0,rfl⟩
 case round=>
  obtain⟨k,y,rfl,i⟩:=hrel;by_cases h:k<m
  ·obtain⟨r,o1,rfl,j,f⟩:=ha.some (by omega)
   obtain⟨n,o2,rfl,l,g⟩:=hb.some (by omega)
   have q1:wr.cell? ⟨r,o1+k,none⟩=some (.int .i64 (ps.getD k 0)):=by obtain⟨s,e⟩:=i;rw[e];exact f k h
   have q2:wr.cell? ⟨n,o2+k,none⟩=some (.int .i64 (ps.getD k 0)):=by obtain⟨s,e⟩:=i;rw[e];exact g k h
   clear f g j l ha hb;have t:(k:Int)<(m:Int):=by omega
   simp only[zoi]at q1 q2;generalize ps[k]?.getD 0=x at*;have u:(x !=x)=false:=by simp
   go_wp2;go_big_quiet (fail)
   go_wp2;go_roundw
   case rel=>exact⟨k+1,by omega,by go_num,by obtain⟨s,e⟩:=i;rw[e];exact⟨_,World.drewN_drewN _ _ _⟩⟩
   case measure=>simp[intOf];omega
  ·go_wp2;go_ret;exact⟨rfl,i⟩
theorem zpR{w:World}{a b:Option Addr}{m:Nat}{ps:List Int}(c d:Nat)(h:m<=100000)(ha:Has .i64 w a m ps)(hb:Has .i64 w b m ps):
 Calls Tryz.prog 34 #[.slice a m c,.slice b m d] w fun e w'=>e=.returned (.bool true)/\Below w.heap.size w w':=
 (zr6 c d h ha hb).mono fun _ _ ⟨g,s,f⟩=>⟨g,by rw[f];exact⟨rfl,rfl,rfl,zos _,fun _ _=>rfl⟩⟩
end Go.Proofs.YtbmcgbmegcpgnaaGreat
