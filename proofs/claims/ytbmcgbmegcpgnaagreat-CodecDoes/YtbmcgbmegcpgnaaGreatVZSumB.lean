import Derived.Test.YtbmcgbmegcpgnaaGreatG1
import Derived.Test.YtbmcgbmegcpgnaaGreatVQDup1
set_option maxHeartbeats 4000000
set_option maxRecDepth 20000
set_option linter.unusedSimpArgs false
namespace Go.Proofs.YtbmcgbmegcpgnaaGreat
open Go.RowKit
theorem zs2(s j:Nat)(a:j<4):(Mth.four s).take (j+1)=(Mth.four s).take j++[((s/256^j%256:Nat):Int)]:=by
 rcases(show j=0\/j=1\/j=2\/j=3 by omega)with rfl|rfl|rfl|rfl<;>simp[Mth.four]
theorem zr0(s:Nat):Mth.Byt (Mth.four s):=by
 intro x a;simp only[Mth.four,zoD,zoA,or_false]at a;rcases a with rfl|rfl|rfl|rfl<;>omega
theorem zqI{zs:List Int}(h:Mth.Byt zs):Mth.Bytes zs:=fun i=>by
 by_cases hi:i<zs.length
 ·rw[zoi,zoh hi,zoC];exact h _ (List.getElem_mem hi)
 ·simp[zoi,List.getElem?_eq_none (Nat.le_of_not_lt hi)]
theorem zqs(s:Nat):IntKind.u8.wrap (s:Int)=((s%256:Nat):Int):=by
 simp[IntKind.wrap,IntKind.bits,IntKind.signed]
def zqU(w:World)(zs:List Int)(e:Ending)(w':World):Prop:=∃a c,e=.returned (.slice a 4 c)/\Has .u8 w' a 4 (Mth.four (Mth.crc zs))/\Below w.heap.size w w'
theorem zqC(a:Option Addr)(n c:Nat)(zs:List Int)(w:World)(N:n<=10000000)(hz:Has .u8 w a n zs):
 Calls Tryz.prog 20 #[.slice a n c] w (zqU w zs):=by
 have J:=hid (zrI a n c zs w N hz);have H:=Mth.crc_lt zs;have HD:Hid (∀a c w',Has .u8 w' a 4 (Mth.four (Mth.crc zs))->Below w.heap.size w w'->zqU w zs (.returned (.slice a 4 c)) w'):=fun a c w' V U=>⟨a,c,rfl,V,U⟩
 generalize Mth.crc zs=s at*;clear hz N;go_enter Tryz.func20,Tryz.ntmps20
 go_wp2_with fail
 refine J.out.mono ?_;rintro e g ⟨rfl,rfl⟩;clear J;go_wp2;go_loopw [7,3,4] (fun q t o wr=>∃(j:Nat) (D:Option Addr) (oc:Nat),j<=4/\q=.int .i64 j/\t=.int .u32 ((s/256^j:Nat):Int)/\o=.slice D j oc/\Hid (wr.ownsRow g.heap.size 5 1 (.slice D j oc) j (BB ((Mth.four s).take j)))/\Hid (Below g.heap.size g wr)) (fun q _ _ _=>4-(intOf q).toNat)
 case atStart=>exact⟨0,none,0,zon _,rfl,by simp,rfl,zoH _ _ _ _,zof _ _⟩
 case round=>
  obtain⟨j,D,oc,Y,rfl,rfl,rfl,A,i⟩:=hrel;by_cases G:j<4
  ·have O:(j:Int)<4:=by omega
   have l:=hid (zs2 s j G);have d:s/256^(j+1)=s/256^j/256:=by rw[Nat.pow_succ,Nat.div_div_eq_div_mul]
   have F:=hid d;have Z:s/256^j<4294967296:=Nat.lt_of_le_of_lt (Nat.div_le_self _ _) H;generalize s/256^j=r at*;have W:=zqs r;have b:Hid (Below wr.heap.size wr (wr.alloc (.cells #[.int .u8 ((r%256:Nat):Int)] 5))):=ze (zof _ _);obtain⟨L,f,E,h,y,B,I⟩:=xL (w:=wr.alloc (.cells #[.int .u8 ((r%256:Nat):Int)] 5)) (ad:=⟨wr.heap.size,0,none⟩) (m:=1) (c:=1) (news:=[.int .u8 ((r%256:Nat):Int)]) 30 Tryz.underlying30 Tryz.info5 rfl (by decide) (ya A.out b.out) rfl zbH (by intro u K;simp only[zoD,zoA,or_false]at K;subst K;rfl) (by decide) (by unfold maxLen;omega) (by omega) (by have:=i.out.size;have:=b.out.size;omega)
   have T:Hid (E.ownsRow g.heap.size 5 1 (.slice (some ⟨L,0,none⟩) (j+1) f) (j+1) (BB ((Mth.four s).take (j+1)))):=by
    rw[l.out];show E.ownsRow g.heap.size 5 1 (.slice (some ⟨L,0,none⟩) (j+1) f) (j+1) (BB ((Mth.four s).take j++[((r%256:Nat):Int)]));rw[show BB ((Mth.four s).take j++[((r%256:Nat):Int)])=BB ((Mth.four s).take j)++[.int .u8 ((r%256:Nat):Int)]by simp[BB]]
    exact y
   have Q:Hid (Below g.heap.size g E):=(ze i.out).grown B (zoz i.out.size b.out.size) fun k R=>(A.out.lt k R).1
   clear y B I A i b l d;go_wp2_with (at_builtin;refine yg rfl _ _ rfl rfl rfl h ?_)
   go_roundw
   case rel=>exact⟨j+1,_,_,by omega,by go_num,zhs (by rw[F.out];omega),rfl,T,Q⟩
   case measure=>simp[intOf];omega
  ·have X:j=4:=by omega
   subst X;have C:=zaW A.out (zqI (fun x S=>zr0 s x (List.mem_of_mem_take S)))
   obtain⟨_,_,M,C⟩:=C;simp only[zox,true_and]at M;obtain⟨rfl,rfl⟩:=M;have P:=hid (HD.out D oc wr C i.out);clear C A i;go_wp2;go_ret;exact P.out
end Go.Proofs.YtbmcgbmegcpgnaaGreat
