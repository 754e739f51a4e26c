import Derived.Test.YtbmcgbmegcpgnaaGreatVQWidth
set_option maxHeartbeats 2000000
set_option maxRecDepth 20000
set_option linter.unusedSimpArgs false
namespace Go.Proofs.YtbmcgbmegcpgnaaGreat
open Go.RowKit
def qB(num:Int)(a:Nat)(least most:Int)(c:Nat->Int)(C A:Int):Prop:=
 (((a:Int)<least\/most<(a:Int))/\C=2/\A= -num)\/
 (¬((a:Int)<least\/most<(a:Int))/\((∃n,n<a/\c n≠0/\(∀j,j<n->c j=0)/\C=c n/\A=1000*num+n)\/((∀j,j<a->c j=0)/\C=0/\A=0)))
def qf(num:Int)(a:Nat)(least most:Int)(c:Nat->Int)(w:World)(e:Ending)(w':World):Prop:=
 ∃C A,qB num a least most c C A/\e=.returned (.agg #[.int .i64 C,.int .i64 A])/\Below w.heap.size w w'
abbrev PB(a:Nat)(least most:Int)(b:Value):Obj:=.cells #[.int .i64 a,.int .i64 least,.int .i64 most,b] 105
abbrev FZ:Obj:=.cells #[.int .i64 0,.int .i64 0] 35
theorem qC{w wr:World}{a:Nat}{least most:Int}{b:Value}(hb:Below (w.heap.size+2) ((w.alloc (PB a least most b)).alloc FZ) wr):
 wr.cell? ⟨w.heap.size,3,none⟩=some b/\wr.cell? ⟨w.heap.size+1,0,none⟩=some (.int .i64 0)/\wr.cell? ⟨w.heap.size+1,1,none⟩=some (.int .i64 0)/\wr.frozen? ⟨w.heap.size+1,0,none⟩=false/\wr.frozen? ⟨w.heap.size+1,1,none⟩=false/\w.heap.size+1<wr.heap.size:=
 ⟨(hb.cell (p:=⟨w.heap.size,3,none⟩) (by simp)).trans (by simp),(hb.cell (p:=⟨w.heap.size+1,0,none⟩) (by simp)).trans (by simp),(hb.cell (p:=⟨w.heap.size+1,1,none⟩) (by simp)).trans (by simp),
  (hb.frozen (p:=⟨w.heap.size+1,0,none⟩) (by simp)).trans (by simp),(hb.frozen (p:=⟨w.heap.size+1,1,none⟩) (by simp)).trans (by simp),by have:=hb.size;simp at this;omega⟩
theorem zeW{w wr:World}{a:Nat}{least most:Int}{b:Value}(hb:Below (w.heap.size+2) ((w.alloc (PB a least most b)).alloc FZ) wr)(x y:Value):Below w.heap.size w ((wr.setCell ⟨w.heap.size+1,0,none⟩ x).setCell ⟨w.heap.size+1,1,none⟩ y):=
 (((ze (ze (zof w.heap.size w))).trans (hb.mono (by omega))).setCell (by simp) _).setCell (by simp) _
def zmx(N:Nat)(d:Value)(a:Nat)(c:Nat->Int)(w:World):Prop:=
 ∀w',Below w.heap.size w w'->∀n:Nat,n<a->Calls Tryz.prog N #[d,.int .i64 n] w' fun e b=>e=.returned (.int .i64 (c n))/\Below w'.heap.size w' b
theorem zkm(N:Nat)(t:Value)(num:Int)(a:Nat)(least most:Int)(c:Nat->Int)(w:World)(y:N=45\/N=46\/N=47\/N=48\/N=49\/N=50\/N=51)(E:1<=num/\num<=7)(A:most<=100)(g:zmx N t a c w):
 Calls Tryz.prog 52 #[.agg #[.int .i64 a,.int .i64 least,.int .i64 most,.func (.func N) #[t] #[]],.int .i64 num] w (qf num a least most c w):=by
 by_cases n:(a:Int)<least
 ·have i:Hid (∀w',Below w.heap.size w w'->qf num a least most c w (.returned (.agg #[.int .i64 2,.int .i64 (-num)])) w'):=fun w' hb=>⟨2,-num,.inl ⟨.inl n,rfl,rfl⟩,rfl,hb⟩
  have K:=zoY n;clear g y;go_enter Tryz.func52,Tryz.ntmps52
  go_wp2;exact bodyPost_ret (v:=.agg #[.int .i64 2,.int .i64 (-num)]) (by simp[results,Tryz.results52,go_sem]) rfl (i.out _ (ze (ze (zof _ _))))
 have K:=zoX n;by_cases u:most<(a:Int)
 ·have i:Hid (∀w',Below w.heap.size w w'->qf num a least most c w (.returned (.agg #[.int .i64 2,.int .i64 (-num)])) w'):=fun w' hb=>⟨2,-num,.inl ⟨.inr u,rfl,rfl⟩,rfl,hb⟩
  have I:=zoY u;clear g y;go_enter Tryz.func52,Tryz.ntmps52
  go_wp2;exact bodyPost_ret (v:=.agg #[.int .i64 2,.int .i64 (-num)]) (by simp[results,Tryz.results52,go_sem]) rfl (i.out _ (ze (ze (zof _ _))))
 have I:=zoX u;have s:¬((a:Int)<least\/most<(a:Int)):=by omega
 have M:a<=100:=by omega
 have o:=hid s;have B:=hid g;have D:=hid y;clear g y s n u;go_enter Tryz.func52,Tryz.ntmps52
 go_wp2;go_loopw [24,5,6] (fun q _ _ wr=>∃k:Nat,k<=a/\q=.int .i64 k/\Hid (∀j,j<k->c j=0)/\Hid (Below (w.heap.size+2) ((w.alloc (PB a least most (.func (.func N) #[t] #[]))).alloc FZ) wr)) (fun q _ _ _=>a-(intOf q).toNat)
 case atStart=>exact⟨0,zon _,rfl,fun j C=>absurd C (by omega),zof _ _⟩
 case round=>
  obtain⟨k,L,rfl,hz,hb⟩:=hrel;obtain⟨q3,f0,f1,z0,z1,sz⟩:=qC hb.out;by_cases r:k<a
  ·have G:(k:Int)<(a:Int):=by omega
   have g:=hid (B.out wr ((ze (ze (zof w.heap.size w))).trans (hb.out.mono (by omega))) k r)
   clear q3 f0 f1 z0 z1 sz;have h:Hid (∀l,Below wr.heap.size wr l->Below (w.heap.size+2) ((w.alloc (PB a least most (.func (.func N) #[t] #[]))).alloc FZ) l):=fun l n=>hb.out.trans (n.mono (by have:=hb.out.size;simpa using this))
   by_cases d:c k=0
   ·have F:Hid (∀j,j<k+1->c j=0):=fun j C=>by
     by_cases J:j=k
     ·subst J;exact d
     ·exact hz.out j (by omega)
    rw[d]at g;clear d;rcases D.out with rfl|rfl|rfl|rfl|rfl|rfl|rfl
    all_goals
     have q3:=(qC hb.out).1;go_wp2_with fail
     refine g.out.mono ?_;rintro e l ⟨rfl,b⟩;have f:=hid (h.out l b);clear b q3;go_wp2;go_roundw
     case rel=>exact⟨k+1,by omega,by go_num,F,f⟩
     case measure=>simp[intOf];omega
   ·have i:Hid (∀w',Below w.heap.size w w'->qf num a least most c w (.returned (.agg #[.int .i64 (c k),.int .i64 (1000*num+k)])) w'):=fun w' hb=>⟨c k,1000*num+k,.inr ⟨o.out,.inl ⟨k,r,d,hz.out,rfl,rfl⟩⟩,rfl,hb⟩
    generalize c k=x at*;have O:(x !=0)=true:=by simpa using d
    rcases D.out with rfl|rfl|rfl|rfl|rfl|rfl|rfl
    all_goals
     have q3:=(qC hb.out).1;go_wp2_with fail
     refine g.out.mono ?_;rintro e l ⟨rfl,b⟩;have f:=hid (h.out l b);obtain⟨_,f0,f1,z0,z1,sz⟩:=qC f.out;have m:=hid (zeW f.out (.int .i64 x) (.int .i64 (1000*num+k)));clear b q3 B h hz hb g;go_wp2;exact bodyPost_ret (v:=.agg #[.int .i64 x,.int .i64 (1000*num+k)]) (by simp[results,Tryz.results52,go_sem, *]) rfl (i.out _ m.out)
  ·have H:k=a:=by omega
   subst H;have i:Hid (∀w',Below w.heap.size w w'->qf num k least most c w (.returned (.agg #[.int .i64 0,.int .i64 0])) w'):=fun w' hb=>⟨0,0,.inr ⟨o.out,.inr ⟨hz.out,rfl,rfl⟩⟩,rfl,hb⟩
   have m:=hid (zeW hb.out (.int .i64 0) (.int .i64 0));clear B hb hz q3;go_wp2;exact bodyPost_ret (v:=.agg #[.int .i64 0,.int .i64 0]) (by simp[results,Tryz.results52,go_sem, *]) rfl (i.out _ m.out)
end Go.Proofs.YtbmcgbmegcpgnaaGreat
