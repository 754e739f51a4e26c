import Derived.Test.YtbmcgbmegcpgnaaGreatG1
import Derived.Test.YtbmcgbmegcpgnaaGreatVBase
import Derived.WalkKit
import Derived.WalkSpells
import Derived.WalkLawsBesides
import Derived.Deep.QuietTactic
import Derived.BigQuiet
import Derived.Laws.ShiftsVarLaws
import Derived.Deep.RegionWith
import Derived.Lib.SliceRun
import Derived.OpenShut
set_option maxHeartbeats 2000000
set_option maxRecDepth 20000
set_option linter.unusedSimpArgs false
namespace Go.Proofs.YtbmcgbmegcpgnaaGreat
open Go.RowKit
abbrev F0:Obj:=.cells #[.int .i64 0,.int .i64 0] 35
end Go.Proofs.YtbmcgbmegcpgnaaGreat
namespace Go.Proofs.YtbmcgbmegcpgnaaGreat.Mth
def bo(zs:List Int)(k:Nat):List Int:=(List.range k).map fun i=>((bit zs i).toNat:Int)
def nb(v n k:Nat):List Int:=(List.range k).map fun j=>((v.testBit (n-1-j)).toNat:Int)
def num(l:List Int):Nat->Nat
 |0=>0
 |k+1=>2*num l k+(l.getD k 0).toNat
def px(l:List Int)(i:Nat):Nat->Nat
 |0=>0
 |k+1=>2*px l i k+(l.getD (i+k) 0).toNat
def by8(l:List Int)(q:Nat):List Int:=(List.range q).map fun i=>(px l (8*i) 8:Int)
def zqV(l:List Int):Prop:=∀i,l.getD i 0=0\/l.getD i 0=1
theorem zrr(zs:List Int)(k:Nat):(bo zs k).length=k:=by simp[bo]
theorem zva(zs:List Int)(k i:Nat)(h:i<k):(bo zs k).getD i 0=((bit zs i).toNat:Int):=by
 simp[bo,zoi,List.getElem?_range h]
theorem zqj(v n k:Nat):(nb v n k).length=k:=by simp[nb]
theorem zvb(v n k i:Nat)(h:i<k):(nb v n k).getD i 0=((v.testBit (n-1-i)).toNat:Int):=by
 simp[nb,zoi,List.getElem?_range h]
theorem zqt(l:List Int)(q:Nat):(by8 l q).length=q:=by simp[by8]
theorem ztc(l:List Int)(q i:Nat)(h:i<q):(by8 l q).getD i 0=(px l (8*i) 8:Int):=by
 simp[by8,zoi,List.getElem?_range h]
theorem zsq(l:List Int)(i:Nat)(h:l.length<=i):l.getD i 0=0:=by
 simp[zoi,List.getElem?_eq_none h]
theorem zuF(l:List Int)(i k:Nat)(h:zqV l):px l i k<2^k:=by
 induction k with
 |zero=>simp[px]
 |succ k ih=>
  have:=h (i+k);simp only[px,Nat.pow_succ];rcases this with e|e<;>rw[e]<;>simp<;>omega
theorem zuN(l:List Int)(i k r:Nat)(h:zqV l)(b:r<k):(px l i k).testBit (k-1-r)=decide (l.getD (i+r) 0=1):=by
 induction k with
 |zero=>omega
 |succ k ih=>
  have hb:=h (i+k);have a:=zuF l i k h;rw[px];by_cases e:r=k
  ·subst e;rw[show r+1-1-r=0 from by omega,Nat.testBit_zero]
   rcases hb with e|e<;>rw[e]<;>simp
  ·rw[show k+1-1-r=(k-1-r)+1 from by omega,Nat.testBit_succ,<-ih (by omega)]
   congr 1
   rcases hb with e|e<;>rw[e]<;>simp<;>omega
theorem zsF(l:List Int)(q:Nat)(h:zqV l):Bytes (by8 l q):=by
 intro i;by_cases hi:i<q
 ·rw[ztc _ _ _ hi];have:=zuF l (8*i) 8 h;omega
 ·rw[zsq _ _ (by rw[zqt];omega)];omega
theorem zt6(l:List Int)(q j:Nat)(h:zqV l)(a:j<8*q):bit (by8 l q) j=decide (l.getD j 0=1):=by
 unfold bit;rw[ztc _ _ _ (by omega),zov]
 have:=zuN l (8*(j/8)) 8 (j%8) h (by omega)
 rw[show 8-1-j%8=7-j%8 from by omega,show 8*(j/8)+j%8=j from by omega]at this
 exact this
def pl(zs:List Int)(t n v:Nat):List Int:=(bo zs (8*zs.length)).take t++nb v n n++(bo zs (8*zs.length)).drop (t+n)
theorem zsG(zs:List Int)(t n v:Nat)(h:t+n<=8*zs.length):(pl zs t n v).length=8*zs.length:=by
 simp only[pl,List.length_append,List.length_take,List.length_drop,zrr,zqj];omega
theorem zuG(zs:List Int)(t n v i:Nat)(h:t+n<=8*zs.length)(hi:i<8*zs.length):
 (pl zs t n v).getD i 0=((if t<=i/\i<t+n then v.testBit (n-1-(i-t))else bit zs i).toNat:Int):=by
 have a:((bo zs (8*zs.length)).take t).length=t:=by rw[List.length_take,zrr];omega
 have hb:=zva zs (8*zs.length);simp only[zoi]at hb ⊢;unfold pl;by_cases b:i<t
 ·rw[if_neg (by omega),List.append_assoc,zoL (by omega),List.getElem?_take,if_pos b]
  exact hb i hi
 ·by_cases c:i<t+n
  ·rw[if_pos (by omega),List.append_assoc,zoO (by omega),a,zoL (by rw[zqj];omega)]
   have:=zvb v n n (i-t) (by omega)
   simpa[zoi]using this
  ·rw[if_neg (by omega),zoO (by rw[List.length_append,a,zqj];omega),List.length_append,a,zqj,List.getElem?_drop,show t+n+(i-(t+n))=i from by omega]
   exact hb i hi
theorem zsr(zs:List Int)(t n v:Nat)(h:t+n<=8*zs.length):zqV (pl zs t n v):=by
 intro i;by_cases hi:i<8*zs.length
 ·rw[zuG _ _ _ _ _ h hi];generalize(if t<=i/\i<t+n then v.testBit (n-1-(i-t))else bit zs i)=c
  cases c<;>simp
 ·left;exact zsq _ _ (by rw[zsG _ _ _ _ h];omega)
theorem put_same(zs:List Int)(t n v:Nat)(hb:Bytes zs)(h:t+n<=8*zs.length):by8 (pl zs t n v) zs.length=wr zs t n v n:=by
 apply ext _ _ (zsF _ _ (zsr _ _ _ _ h)) (zrN _ _ _ _ _ hb) (by rw[zqt,zrp])
 intro j a;rw[zqt]at a;rw[zt6 _ _ _ (zsr _ _ _ _ h) a,zuG _ _ _ _ _ h a,zuM _ _ _ _ _ _ hb h];generalize(if t<=j/\j<t+n then v.testBit (n-1-(j-t))else bit zs j)=c
 cases c<;>simp
end Go.Proofs.YtbmcgbmegcpgnaaGreat.Mth
namespace Go.Proofs.YtbmcgbmegcpgnaaGreat
open Go.RowKit
theorem zA(x y:Int)(w:World):
 Calls Tryz.prog 21 #[.int .i64 x,.int .i64 y] w fun e w'=>e=.returned (.agg #[.int .i64 x,.int .i64 y])/\Below w.heap.size w w':=by
 go_enter Tryz.func21,Tryz.ntmps21
 go_wp2;exact bodyPost_ret (v:=.agg #[.int .i64 x,.int .i64 y]) (by simp[results,Tryz.results21,go_sem]) rfl ⟨rfl,(zof _ _).alloc (zos _) _⟩
end Go.Proofs.YtbmcgbmegcpgnaaGreat
namespace Go.Proofs.YtbmcgbmegcpgnaaGreat.Mth
abbrev Fit(ws:List Int)(i:Nat):Prop:=1<=ws.getD i 0/\ws.getD i 0<=48
theorem fit_off(ws:List Int)(k:Nat)(h:∀j,j<k->Fit ws j):off ws k<=48*k:=by
 induction k with
 |zero=>simp[off]
 |succ k ih=>
  have:=ih (fun j b=>h j (by omega))
  have a:=h k (by omega)
  unfold Fit at a;simp only[off];omega
end Go.Proofs.YtbmcgbmegcpgnaaGreat.Mth
namespace Go.Proofs.YtbmcgbmegcpgnaaGreat
open Go.RowKit
abbrev HD(a:Option Addr)(m c:Nat):Value:=.agg #[.slice a m c]
abbrev H0(a:Option Addr)(m c:Nat):Obj:=.cells #[.slice a m c] 53
theorem kE{w wr:World}{a:Option Addr}{m c:Nat}(hb:Below (w.heap.size+2) ((w.alloc (H0 a m c)).alloc F0) wr):
 wr.cell? ⟨w.heap.size,0,none⟩=some (.slice a m c)/\wr.cell? ⟨w.heap.size+1,0,none⟩=some (.int .i64 0)/\wr.cell? ⟨w.heap.size+1,1,none⟩=some (.int .i64 0)/\wr.frozen? ⟨w.heap.size+1,0,none⟩=false/\wr.frozen? ⟨w.heap.size+1,1,none⟩=false/\w.heap.size+1<wr.heap.size:=
 ⟨(hb.cell (p:=⟨w.heap.size,0,none⟩) (by simp)).trans (by simp),(hb.cell (p:=⟨w.heap.size+1,0,none⟩) (by simp)).trans (by simp),(hb.cell (p:=⟨w.heap.size+1,1,none⟩) (by simp)).trans (by simp),
  (hb.frozen (p:=⟨w.heap.size+1,0,none⟩) (by simp)).trans (by simp),(hb.frozen (p:=⟨w.heap.size+1,1,none⟩) (by simp)).trans (by simp),by have:=hb.size;simp at this;omega⟩
theorem qj{w wr:World}{a:Option Addr}{m c:Nat}(hb:Below (w.heap.size+2) ((w.alloc (H0 a m c)).alloc F0) wr)(x y:Value):Below w.heap.size w ((wr.setCell ⟨w.heap.size+1,0,none⟩ x).setCell ⟨w.heap.size+1,1,none⟩ y):=
 (((ze (ze (zof w.heap.size w))).trans (hb.mono (by omega))).setCell (by simp) _).setCell (by simp) _
theorem zit(a:Option Addr)(m c:Nat)(w:World)(h:(m:Int)<1\/8<(m:Int)):
 Calls Tryz.prog 84 #[HD a m c] w fun e w'=>e=.returned (.tuple #[.int .i64 0,.agg #[.int .i64 2,.int .i64 (-1)]])/\Below w.heap.size w w':=by
 by_cases d:(m:Int)<1
 ·go_enter Tryz.func84,Tryz.ntmps84
  go_wp2;exact bodyPost_ret (v:=.tuple #[.int .i64 0,.agg #[.int .i64 2,.int .i64 (-1)]]) (by simp[results,Tryz.results84,go_sem]) rfl ⟨rfl,ze (ze (zof _ _))⟩
 ·have b:8<(m:Int):=by omega
  go_enter Tryz.func84,Tryz.ntmps84
  go_wp2;exact bodyPost_ret (v:=.tuple #[.int .i64 0,.agg #[.int .i64 2,.int .i64 (-1)]]) (by simp[results,Tryz.results84,go_sem]) rfl ⟨rfl,ze (ze (zof _ _))⟩
theorem zgg(a:Option Addr)(m c i:Nat)(ws:List Int)(w:World)(A:1<=m)(D:m<=8)(hw:Has .i64 w a m ws)(hi:i<m)(b:∀j,j<i->Mth.Fit ws j)(f:¬Mth.Fit ws i):
 Calls Tryz.prog 84 #[HD a m c] w fun e w'=>e=.returned (.tuple #[.int .i64 0,.agg #[.int .i64 6,.int .i64 i]])/\Below w.heap.size w w':=by
 have s:=hid b;clear b;obtain⟨p,o,rfl,l,d⟩:=(hw.alloc (o:=H0 a m c)).alloc (o:=F0) |>.some (by omega)
 have y:=hid d;clear d hw l;go_enter Tryz.func84,Tryz.ntmps84
 go_wp2;go_loop [4,21] (fun t q=>∃k:Nat,k<=i/\q=.int .i64 k/\t=.int .i64 (Mth.off ws k)) (fun _ q=>m-(intOf q).toNat)
 case atStart=>exact⟨0,zon _,rfl,rfl⟩
 case round=>
  obtain⟨k,E,rfl,rfl⟩:=hrel;have h:=y.out k (by omega)
  have C:=Mth.fit_off ws k (fun j B=>s.out j (by omega))
  by_cases n:k=i
  ·subst n;unfold Mth.Fit at f;simp only[zoi]at f h;generalize ws[k]?.getD 0=x at*;by_cases F:x<1
   ·go_wp2;exact bodyPost_ret (v:=.tuple #[.int .i64 0,.agg #[.int .i64 6,.int .i64 k]]) (by simp[results,Tryz.results84,go_sem]) rfl ⟨rfl,ze (ze (zof _ _))⟩
   ·have u:48<x:=by omega
    clear f;go_wp2;exact bodyPost_ret (v:=.tuple #[.int .i64 0,.agg #[.int .i64 6,.int .i64 k]]) (by simp[results,Tryz.results84,go_sem]) rfl ⟨rfl,ze (ze (zof _ _))⟩
  ·have r:=s.out k (by omega)
   unfold Mth.Fit at r;have g:Hid (Mth.off ws (k+1)=Mth.off ws k+(ws.getD k 0).toNat):=rfl;simp only[zoi]at r h g;generalize ws[k]?.getD 0=x at*;go_wp2;go_round
   case rel=>exact⟨k+1,by omega,by go_num,zhs (by rw[g.out];omega)⟩
   case measure=>simp[intOf];omega
def zbp(N:Nat)(x:Value):Prop:=((N%8=0/\N<=256)->x=.tuple #[.int .i64 ((N/8:Nat):Int),.agg #[.int .i64 0,.int .i64 0]])/\(¬(N%8=0/\N<=256)->x=.tuple #[.int .i64 0,.agg #[.int .i64 6,.int .i64 (-1)]])
theorem zdG(N:Nat)(h:N%8=0)(a:N<=256):zbp N (.tuple #[.int .i64 ((N/8:Nat):Int),.agg #[.int .i64 0,.int .i64 0]]):=⟨fun _=>rfl,fun b=>absurd ⟨h,a⟩ b⟩
theorem zbq(N:Nat)(h:¬(N%8=0/\N<=256)):zbp N (.tuple #[.int .i64 0,.agg #[.int .i64 6,.int .i64 (-1)]]):=⟨fun a=>absurd a h,fun _=>rfl⟩
theorem zcX(a:Option Addr)(m c:Nat)(ws:List Int)(w:World)(G:1<=m)(H:m<=8)(hw:Has .i64 w a m ws)(b:∀j,j<m->Mth.Fit ws j):
 Calls Tryz.prog 84 #[HD a m c] w fun e w'=>∃x,e=.returned x/\zbp (Mth.off ws m) x/\Below w.heap.size w w':=by
 have u:=hid b;clear b;obtain⟨p,o,rfl,r,d⟩:=(hw.alloc (o:=H0 a m c)).alloc (o:=F0) |>.some (by omega)
 have C:=hid d;clear d hw r;go_enter Tryz.func84,Tryz.ntmps84
 go_wp2;go_loop [4,21] (fun t q=>∃k:Nat,k<=m/\q=.int .i64 k/\t=.int .i64 (Mth.off ws k)) (fun _ q=>m-(intOf q).toNat)
 case atStart=>exact⟨0,zon _,rfl,rfl⟩
 case round=>
  obtain⟨k,E,rfl,rfl⟩:=hrel;have I:=Mth.fit_off ws k (fun j D=>u.out j (by omega))
  by_cases A:k<m
  ·have y:=u.out k (by omega)
   have n:=C.out k (by omega)
   unfold Mth.Fit at y;have f:Hid (Mth.off ws (k+1)=Mth.off ws k+(ws.getD k 0).toNat):=rfl;simp only[zoi]at y n f;generalize ws[k]?.getD 0=x at*;go_wp2;go_round
   case rel=>exact⟨k+1,by omega,by go_num,zhs (by rw[f.out];omega)⟩
   case measure=>simp[intOf];omega
  ·have B:k=m:=by omega
   subst B;generalize g:Mth.off ws k=N at*;have i:=hid g;clear g;have h:(N:Int).tmod 8=((N%8:Nat):Int):=rfl;by_cases s:N%8=0
   ·have l:((N:Int).tmod 8 !=0)=false:=by rw[h,s];rfl
    by_cases F:(256:Int)<(N:Int)
    ·clear h;go_wp2;exact bodyPost_ret (v:=.tuple #[.int .i64 0,.agg #[.int .i64 6,.int .i64 (-1)]]) (by simp[results,Tryz.results84,go_sem]) rfl ⟨_,rfl,by rw[i.out];exact zbq N (by omega),ze (ze (zof _ _))⟩
    ·clear h;go_wp2;exact bodyPost_ret (v:=.tuple #[.int .i64 ((N/8:Nat):Int),.agg #[.int .i64 0,.int .i64 0]]) (by simp[results,Tryz.results84,go_sem]) rfl ⟨_,rfl,by rw[i.out];exact zdG N s (by omega),ze (ze (zof _ _))⟩
   ·have l:((N:Int).tmod 8 !=0)=true:=by rw[h,bne_iff_ne];omega
    clear h;go_wp2;exact bodyPost_ret (v:=.tuple #[.int .i64 0,.agg #[.int .i64 6,.int .i64 (-1)]]) (by simp[results,Tryz.results84,go_sem]) rfl ⟨_,rfl,by rw[i.out];exact zbq N (by omega),ze (ze (zof _ _))⟩
end Go.Proofs.YtbmcgbmegcpgnaaGreat
