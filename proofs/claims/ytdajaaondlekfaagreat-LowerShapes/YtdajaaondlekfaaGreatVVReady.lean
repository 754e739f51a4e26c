import Derived.Test.YtdajaaondlekfaaGreatG8
import Derived.Deep.RegionHeld3
import Derived.Deep.RegionLaw
import Derived.Deep.AppendLies
import Derived.Deep.DeepCutAuto
set_option maxHeartbeats 4000000
set_option maxRecDepth 20000
set_option linter.unusedSimpArgs false
namespace Go.Proofs.YtdajaaondlekfaaGreat
open Go.RowKit
def xV(ts:List ShapeD)(m:VMD)(x:InsD):Bool:=
 if x.op=2\/x.op=6 then m.rs x.s.toNat else if x.op=3\/x.op=5\/x.op=10\/x.op=11 then m.rs x.r.toNat&&m.rs x.s.toNat else if x.op=4\/x.op=8\/x.op=9\/x.op=14\/x.op=15\/x.op=16 then m.rs x.r.toNat else if x.op=7 then m.ss x.n.toNat else if x.op=13 then(match ts[x.n.toNat]? with|none=>true|some t=>(List.range t.keys.toNat).all fun i=>m.ss (x.s.toNat+i))else true
structure XOk (x : InsD) : Prop where
 r : 0 <= x.r /\ x.r < 10
 s : x.op = 13 \/ 0 <= x.s /\ x.s < 10
 n : x.op = 7 \/ x.op = 8 -> 0 <= x.n /\ x.n < 96
 op : 1 <= x.op /\ x.op <= 18
theorem zlY(n:Int)(x:Bool)(w:World):Calls Tryz.prog 127 #[.slice (some ⟨w.heap.size,0,none⟩) 1 1] (w.alloc (.cells #[.int .u64 n,.bool x] 100)).drew (zw x (w.alloc (.cells #[.int .u64 n,.bool x] 100)).drew):=by
 have h:=zhi (w:=(w.alloc (.cells #[.int .u64 n,.bool x] 100)).drew) (a:=some ⟨w.heap.size,0,none⟩) (bs:=[x]) 1 (fun i y b=>by
  cases i with
  |zero=>
   simp only[List.getElem?_cons_zero,zoo]at b;subst b;exact⟨w.heap.size,0,n,rfl,by simp,by simp⟩
  |succ i=>simp at b) (by simp)
 simpa using h
theorem zlZ(n:Int)(x:Bool)(c:Int)(x':Bool)(w:World):Calls Tryz.prog 127 #[.slice (some ⟨w.heap.size,0,none⟩) 2 2] (w.alloc (.cells #[.int .u64 n,.bool x,.int .u64 c,.bool x'] 100)).drew (zw (x&&x') (w.alloc (.cells #[.int .u64 n,.bool x,.int .u64 c,.bool x'] 100)).drew):=by
 have h:=zhi (w:=(w.alloc (.cells #[.int .u64 n,.bool x,.int .u64 c,.bool x'] 100)).drew) (a:=some ⟨w.heap.size,0,none⟩) (bs:=[x,x']) 2 (fun i y b=>by
  match i with
  |0=>
   simp only[List.getElem?_cons_zero,zoo]at b;subst b;exact⟨w.heap.size,0,n,rfl,by simp,by simp⟩
  |1=>
   simp only[List.getElem?_cons_succ,List.getElem?_cons_zero,zoo]at b;subst b;exact⟨w.heap.size,0,c,rfl,by simp,by simp⟩
  |i+2=>simp at b) (by simp)
 simpa using h
theorem zbR{w w':World}{a b c d e f:Nat}{x y z:Value}(h:w.cell? ⟨a,b,none⟩=some x/\w.cell? ⟨c,d,none⟩=some y/\w.cell? ⟨e,f,none⟩=some z)(hb:Below w.heap.size w w'):w'.cell? ⟨a,b,none⟩=some x/\w'.cell? ⟨c,d,none⟩=some y/\w'.cell? ⟨e,f,none⟩=some z:=⟨za h.1 hb,za h.2.1 hb,za h.2.2 hb⟩
theorem qG{w w':World}{a b c d e f j l k g i n:Nat}{x y z x' o m:Value}(h:w.cell? ⟨a,b,none⟩=some x/\w.cell? ⟨c,d,none⟩=some y/\w.cell? ⟨e,f,none⟩=some z/\w.cell? ⟨j,l,none⟩=some x'/\w.cell? ⟨k,g,none⟩=some o/\w.cell? ⟨i,n,none⟩=some m)(hb:Below w.heap.size w w'):w'.cell? ⟨a,b,none⟩=some x/\w'.cell? ⟨c,d,none⟩=some y/\w'.cell? ⟨e,f,none⟩=some z/\w'.cell? ⟨j,l,none⟩=some x'/\w'.cell? ⟨k,g,none⟩=some o/\w'.cell? ⟨i,n,none⟩=some m:=⟨za h.1 hb,za h.2.1 hb,za h.2.2.1 hb,za h.2.2.2.1 hb,za h.2.2.2.2.1 hb,za h.2.2.2.2.2 hb⟩
theorem zm6{W:World}{b:Nat}{k:VMK}{m:VMD}{w:World}(ts:List ShapeD)(h:VMAt W b k m w)(x:InsD)(U:XOk x)(A:x.op≠13):Calls Tryz.prog 88 #[kQ b,x.v] w (zw (xV ts m x) w):=by
 obtain⟨op,r,s,o,l,n⟩:=x;obtain⟨hr,hs,B,c⟩:=U;dsimp only at hr hs B A c;replace hs:=hs.resolve_left A
 obtain⟨r,rfl⟩:∃i:Nat,r=i:=⟨r.toNat,by omega⟩
 obtain⟨s,rfl⟩:∃i:Nat,s=i:=⟨s.toNat,by omega⟩
 obtain⟨d,hW1⟩:∃d,d=w.alloc (.cells #[.int .i64 op,.int .i64 (r:Int),.int .i64 (s:Int),.int .i64 o,.int .i64 l,.int .u64 n] 126):=⟨_,rfl⟩;obtain⟨ib,hib⟩:∃b,b=w.heap.size:=⟨_,rfl⟩;have u:Below w.heap.size w d:=by rw[hW1];exact ze (zof _ _)
 have S:IBox ⟨op,r,s,o,l,n⟩ d ib:=by rw[hW1,hib];exact ji ⟨op,r,s,o,l,n⟩ w
 obtain⟨P,J,K,C,D,I⟩:=S;dsimp only at P J K C D I;have f:=h.step u;have r0:=f.rn r (by omega)
 have r1:=f.rs r (by omega)
 have s0:=f.rn s (by omega)
 have s1:=f.rs s (by omega)
 have Z:=f.lt;have R:ib<d.heap.size:=zog _ _ P;have O:(r:Int)<10:=by omega
 have N:(s:Int)<10:=by omega
 have G:=hid (fun n x w=>zlY n x w)
 have g:=hid (fun n x Q x' w=>zlZ n x Q x' w)
 have F:=hid u;have t:=hid hW1;have j:=hid hib;have H:Hid (∀q w',q=xV ts m ⟨op,r,s,o,l,n⟩->Below w.heap.size w w'->zw (xV ts m ⟨op,r,s,o,l,n⟩) w (.returned (.bool q)) w'):=fun q w' e h=>⟨by rw[e],h⟩
 dsimp only[InsD.v];by_cases q2:op=2\/op=6
 ·have E:Hid (m.rs s=xV ts m ⟨op,r,s,o,l,n⟩):=by
   show _=_;unfold xV;dsimp only;rw[if_pos q2,zov]
  generalize m.rs s=X at*;generalize m.rn s=Y at*;clear hW1 hib u h f r0 r1 J C D I B hr hs c g;rcases q2 with rfl|rfl
  all_goals
   go_enter Tryz.func88,Tryz.ntmps88
   go_upto_region 1 with fail
   rw[<-t.out,<-j.out];clear t j;go_wp2_with fail
   go_region_held3 (fun w'=>w'.cell? ⟨ib,2,none⟩=some (.int .i64 (s:Int))/\w'.cell? ⟨b,s*2,none⟩=some (.int .u64 (Y:Int))/\w'.cell? ⟨b,s*2+1,none⟩=some (.bool X))
    (first
     |go_keep
     |(go_split_ands;with_reducible exact zbR ⟨by assumption,by assumption,by assumption⟩ (ze (zof _ _)).drew)
     |(go_split_ands;with_reducible exact zbR ⟨by assumption,by assumption,by assumption⟩ a))
    (first|(go_at_call 127;refine(G.out _ _ _).mono ?_;rintro e L ⟨rfl,a⟩))
   all_goals
    have y:=hid (zh (zh F.out (ze (zof d.heap.size d)).drew) a);clear a;go_wp2;go_ret;exact H.out _ _ E.out y.out
 by_cases q3:op=3\/op=5\/op=10\/op=11
 ·have E:Hid ((m.rs r&&m.rs s)=xV ts m ⟨op,r,s,o,l,n⟩):=by
   show _=_;unfold xV;dsimp only;rw[if_neg q2,if_pos q3,zov,zov]
  generalize m.rs s=X at*;generalize m.rn s=Y at*;generalize m.rs r=X2 at*;generalize m.rn r=V at*;clear hW1 hib u h f C D I B hr hs c G q2;rcases q3 with rfl|rfl|rfl|rfl
  all_goals
   go_enter Tryz.func88,Tryz.ntmps88
   go_upto_region 1 with fail
   rw[<-t.out,<-j.out];clear t j;go_wp2_with fail
   go_region_held3 (fun w'=>w'.cell? ⟨ib,1,none⟩=some (.int .i64 (r:Int))/\w'.cell? ⟨ib,2,none⟩=some (.int .i64 (s:Int))/\w'.cell? ⟨b,r*2,none⟩=some (.int .u64 (V:Int))/\w'.cell? ⟨b,r*2+1,none⟩=some (.bool X2)/\w'.cell? ⟨b,s*2,none⟩=some (.int .u64 (Y:Int))/\w'.cell? ⟨b,s*2+1,none⟩=some (.bool X))
    (first
     |go_keep
     |(go_split_ands;with_reducible exact qG ⟨by assumption,by assumption,by assumption,by assumption,by assumption,by assumption⟩ (ze (zof _ _)).drew)
     |(go_split_ands;with_reducible exact qG ⟨by assumption,by assumption,by assumption,by assumption,by assumption,by assumption⟩ a))
    (first|(go_at_call 127;refine(g.out _ _ _ _ _).mono ?_;rintro e L ⟨rfl,a⟩))
   all_goals
    have y:=hid (zh (zh F.out (ze (zof d.heap.size d)).drew) a);clear a;go_wp2;go_ret;exact H.out _ _ E.out y.out
 by_cases q4:op=4\/op=8\/op=9\/op=14\/op=15\/op=16
 ·have E:Hid (m.rs r=xV ts m ⟨op,r,s,o,l,n⟩):=by
   show _=_;unfold xV;dsimp only;rw[if_neg q2,if_neg q3,if_pos q4,zov]
  generalize m.rs r=X at*;generalize m.rn r=Y at*;clear hW1 hib u h f s0 s1 K C D I B hr hs c g q2 q3;rcases q4 with rfl|rfl|rfl|rfl|rfl|rfl
  all_goals
   go_enter Tryz.func88,Tryz.ntmps88
   go_upto_region 1 with fail
   rw[<-t.out,<-j.out];clear t j;go_wp2_with fail
   go_region_held3 (fun w'=>w'.cell? ⟨ib,1,none⟩=some (.int .i64 (r:Int))/\w'.cell? ⟨b,r*2,none⟩=some (.int .u64 (Y:Int))/\w'.cell? ⟨b,r*2+1,none⟩=some (.bool X))
    (first
     |go_keep
     |(go_split_ands;with_reducible exact zbR ⟨by assumption,by assumption,by assumption⟩ (ze (zof _ _)).drew)
     |(go_split_ands;with_reducible exact zbR ⟨by assumption,by assumption,by assumption⟩ a))
    (first|(go_at_call 127;refine(G.out _ _ _).mono ?_;rintro e L ⟨rfl,a⟩))
   all_goals
    have y:=hid (zh (zh F.out (ze (zof d.heap.size d)).drew) a);clear a;go_wp2;go_ret;exact H.out _ _ E.out y.out
 by_cases q7:op=7
 ·have M:=B (.inl q7);obtain⟨n,rfl⟩:∃i:Nat,n=i:=⟨n.toNat,by omega⟩
  have n0:=f.sn n (by omega)
  have n1:=f.ss n (by omega)
  have T:(n:Int)<96:=by omega
  have E:Hid (m.ss n=xV ts m ⟨op,r,s,o,l,n⟩):=by
   show _=_;unfold xV;dsimp only;rw[if_neg q2,if_neg q3,if_neg q4,if_pos q7,zov]
  generalize m.ss n=X at*;generalize m.sn n=Y at*;clear hW1 hib u h f s0 s1 r0 r1 J K C D B hr hs c g q2 q3 q4 M O N;subst q7;go_enter Tryz.func88,Tryz.ntmps88
  go_upto_region 1 with fail
  rw[<-t.out,<-j.out];clear t j;go_wp2_with fail
  go_region_held3 (fun w'=>w'.cell? ⟨ib,5,none⟩=some (.int .u64 (n:Int))/\w'.cell? ⟨b,20+n*2,none⟩=some (.int .u64 (Y:Int))/\w'.cell? ⟨b,20+n*2+1,none⟩=some (.bool X))
   (first
    |go_keep
    |(go_split_ands;with_reducible exact zbR ⟨by assumption,by assumption,by assumption⟩ (ze (zof _ _)).drew)
    |(go_split_ands;with_reducible exact zbR ⟨by assumption,by assumption,by assumption⟩ a))
   (first|(go_at_call 127;refine(G.out _ _ _).mono ?_;rintro e L ⟨rfl,a⟩))
  all_goals
   have y:=hid (zh (zh F.out (ze (zof d.heap.size d)).drew) a);clear a;go_wp2;go_ret;exact H.out _ _ E.out y.out
 have E:Hid (true=xV ts m ⟨op,r,s,o,l,n⟩):=by
  show _=_;unfold xV;dsimp only;rw[if_neg q2,if_neg q3,if_neg q4,if_neg q7,if_neg A]
 have q:op=1\/op=12\/op=17\/op=18:=by omega
 clear hW1 hib u h f s0 s1 r0 r1 J K C D I B hr hs c g G q2 q3 q4 q7;rcases q with rfl|rfl|rfl|rfl
 all_goals
  go_enter Tryz.func88,Tryz.ntmps88
  go_upto_region 1 with fail
  rw[<-t.out,<-j.out];clear t j;go_wp2;go_ret;exact H.out _ _ E.out F.out
end Go.Proofs.YtdajaaondlekfaaGreat
