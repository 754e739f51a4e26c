import Derived.Test.YtbmcgbmegcpgnaaGreatVZWr5
set_option maxHeartbeats 8000000
set_option maxRecDepth 20000
set_option linter.unusedSimpArgs false
namespace Go.Proofs.YtbmcgbmegcpgnaaGreat
open Go.RowKit
def zpr(x:ActD):List Int:=xr x.ws++(zk (x.ops.n:Int)++x.os.flatMap opL)
def zpB(x:TabD):List Int:=zk x.kind++((zk (x.keys.n:Int)++x.ks.flatMap zoZ)++(xr x.al++((zk x.cap++zk x.dflt)++zqa x.zs)))
def zpg(x:NodeD):List Int:=(zk x.kind++zk x.yes)++(if x.kind=3 then zpc x.es++zk x.no else if x.kind=4 then zk x.n++zk x.no else zk x.n)
theorem zuD(i:World)(p:Nat)(bs:List Int)(x:NodeD)(w:World)(h:Wr i.heap.size p bs w)(U:Below i.heap.size i w)(hx:wfI x.kind/\wfI x.n/\wfI x.yes/\wfI x.no)(hr:QRow 4 PushD.lie i x.e x.es)(hn:x.e.n<=100000)(hl:(bs++zpg x).length<=9000000):
 Calls Tryz.prog 64 #[.pointer (some ⟨p,0,none⟩),.agg #[.int .i64 x.kind,.int .i64 x.n,.slice x.e.a x.e.n x.e.c,.int .i64 x.yes,.int .i64 x.no]] w (km i.heap.size p (bs++zpg x) w):=by
 have F:Below w.heap.size w (w.alloc (.cells #[.int .i64 x.kind,.int .i64 x.n,.slice x.e.a x.e.n x.e.c,.int .i64 x.yes,.int .i64 x.no] 65)):=ze (zof _ _);have H0:=hid (h.step F);have X:=hid (F.mono h.bl);have F0:=hid (Fram.below F:Fram p w (w.alloc (.cells #[.int .i64 x.kind,.int .i64 x.n,.slice x.e.a x.e.n x.e.c,.int .i64 x.yes,.int .i64 x.no] 65)));have J:=hid (zpw w #[.int .i64 x.kind,.int .i64 x.n,.slice x.e.a x.e.n x.e.c,.int .i64 x.yes,.int .i64 x.no] 65);have G:w.heap.size≠p:=by have:=h.pl;omega
 have E:=hid hl;have HW:=hid U;have s:=hid G;have g:=hid hx;have a0:=hid hr;clear h hl F U G hx hr;have a3:∀(fn:Fn) (first cap:Array Value) (w:World),(Instr.makeFunc fn first cap).run Tryz.prog w=.ok (.func fn first cap) w:=fun _ _ _ _=>rfl
 by_cases H:x.kind=3
 ·have e3:(x.kind==3)=true:=by simpa using H
  have es:zpg x=(zk x.kind++zk x.yes)++(zpc x.es++zk x.no):=by unfold zpg;rw[if_pos H]
  rw[es]at E ⊢;clear es H;have r:=hid (zp4 i.heap.size p (w.heap.size+1) _ x.kind x.yes (w.alloc (.cells #[.int .i64 x.kind,.int .i64 x.n,.slice x.e.a x.e.n x.e.c,.int .i64 x.yes,.int .i64 x.no] 65)) (by simp) g.out.1 g.out.2.2.1 H0.out (by have:=E.out;simp only[List.length_append]at this ⊢;omega))
  go_enter Tryz.func64,Tryz.ntmps64
  go_wp2_with fail
  refine r.out.mono ?_;rintro e D ⟨rfl,f,d,b⟩;replace d:=(((ze (zof _ _)).mono H0.out.bl:Below _ (w.alloc (.cells #[.int .i64 x.kind,.int .i64 x.n,.slice x.e.a x.e.n x.e.c,.int .i64 x.yes,.int .i64 x.no] 65)) ((w.alloc (.cells #[.int .i64 x.kind,.int .i64 x.n,.slice x.e.a x.e.n x.e.c,.int .i64 x.yes,.int .i64 x.no] 65)).alloc (.cells #[.int .i64 x.kind,.int .i64 x.yes] 3)))).trans d
  replace b:=(Fram.below (ze (zof _ _)):Fram p (w.alloc (.cells #[.int .i64 x.kind,.int .i64 x.n,.slice x.e.a x.e.n x.e.c,.int .i64 x.yes,.int .i64 x.no] 65)) ((w.alloc (.cells #[.int .i64 x.kind,.int .i64 x.n,.slice x.e.a x.e.n x.e.c,.int .i64 x.yes,.int .i64 x.no] 65)).alloc (.cells #[.int .i64 x.kind,.int .i64 x.yes] 3))).trans b
  have K:=hid (X.out.trans d);have Q:=hid (F0.out.trans b);have M:=hid f;have ha:=b.2 _ _ _ _ s.out (by decide) J.out
  have C:=hid ha;have j:=zd ha 0;have k:=zd ha 1;have m:=zd ha 2;have l:=zd ha 3;have o:=zd ha 4;simp only[List.getElem?_toArray,List.getElem?_cons_zero,List.getElem?_cons_succ]at j k m l o;clear f d b ha r;have q:=hid (zrL i p _ x.e x.es D M.out (HW.out.trans K.out) a0.out hn (by have:=E.out;simp only[List.length_append]at this ⊢;omega))
  go_wp2_with fail
  refine q.out.mono ?_;rintro e w2 ⟨rfl,f,d,b⟩;have R:=hid (K.out.trans d);have O:=hid (Q.out.trans b);have S:=hid f;have ha:=b.2 _ _ _ _ s.out (by decide) C.out
  have I:=hid ha;have t:=zd ha 0;have u:=zd ha 1;have A:=zd ha 2;have y:=zd ha 3;have B:=zd ha 4;simp only[List.getElem?_toArray,List.getElem?_cons_zero,List.getElem?_cons_succ]at t u A y B;clear f d b ha q j k m l o;have T:=hid (kn i.heap.size p _ x.no w2 g.out.2.2.2 S.out (by have:=E.out;simp only[List.length_append]at this ⊢;omega))
  go_wp2_with fail
  refine T.out.mono ?_;rintro e w3 ⟨rfl,f,d,b⟩;have B3:=hid (R.out.trans d);have F3:=hid (O.out.trans b);have H3:=hid f;have ha:=b.2 _ _ _ _ s.out (by decide) I.out
  have a2:=hid ha;have Z:=zd ha 0;have V:=zd ha 1;have W:=zd ha 2;have a1:=zd ha 3;have Y:=zd ha 4;simp only[List.getElem?_toArray,List.getElem?_cons_zero,List.getElem?_cons_succ]at Z V W a1 Y;clear f d b ha T t u A y B;have N:Hid (km i.heap.size p (bs++((zk x.kind++zk x.yes)++(zpc x.es++zk x.no))) w (.returned (.tuple #[])) w3):=by
   have f:=H3.out;have P:Wr i.heap.size p (bs++((zk x.kind++zk x.yes)++(zpc x.es++zk x.no))) w3:=by simpa only[List.append_assoc]using f
   exact⟨rfl,P,B3.out,F3.out⟩
  go_wp2;go_end0
  exact N.out
 have e3:(x.kind==3)=false:=by simpa using H
 by_cases L:x.kind=4
 ·have e4:(x.kind==4)=true:=by simpa using L
  have es:zpg x=(zk x.kind++zk x.yes)++(zk x.n++zk x.no):=by unfold zpg;rw[if_neg H,if_pos L]
  rw[es]at E ⊢;clear es H L;have r:=hid (zp4 i.heap.size p (w.heap.size+1) _ x.kind x.yes (w.alloc (.cells #[.int .i64 x.kind,.int .i64 x.n,.slice x.e.a x.e.n x.e.c,.int .i64 x.yes,.int .i64 x.no] 65)) (by simp) g.out.1 g.out.2.2.1 H0.out (by have:=E.out;simp only[List.length_append]at this ⊢;omega))
  go_enter Tryz.func64,Tryz.ntmps64
  go_wp2_with fail
  refine r.out.mono ?_;rintro e D ⟨rfl,f,d,b⟩;replace d:=(((ze (zof _ _)).mono H0.out.bl:Below _ (w.alloc (.cells #[.int .i64 x.kind,.int .i64 x.n,.slice x.e.a x.e.n x.e.c,.int .i64 x.yes,.int .i64 x.no] 65)) ((w.alloc (.cells #[.int .i64 x.kind,.int .i64 x.n,.slice x.e.a x.e.n x.e.c,.int .i64 x.yes,.int .i64 x.no] 65)).alloc (.cells #[.int .i64 x.kind,.int .i64 x.yes] 3)))).trans d
  replace b:=(Fram.below (ze (zof _ _)):Fram p (w.alloc (.cells #[.int .i64 x.kind,.int .i64 x.n,.slice x.e.a x.e.n x.e.c,.int .i64 x.yes,.int .i64 x.no] 65)) ((w.alloc (.cells #[.int .i64 x.kind,.int .i64 x.n,.slice x.e.a x.e.n x.e.c,.int .i64 x.yes,.int .i64 x.no] 65)).alloc (.cells #[.int .i64 x.kind,.int .i64 x.yes] 3))).trans b
  have K:=hid (X.out.trans d);have Q:=hid (F0.out.trans b);have M:=hid f;have ha:=b.2 _ _ _ _ s.out (by decide) J.out
  have C:=hid ha;have j:=zd ha 0;have k:=zd ha 1;have m:=zd ha 2;have l:=zd ha 3;have o:=zd ha 4;simp only[List.getElem?_toArray,List.getElem?_cons_zero,List.getElem?_cons_succ]at j k m l o;clear f d b ha r;have q:=hid (zp4 i.heap.size p D.heap.size _ x.n x.no D rfl g.out.2.1 g.out.2.2.2 M.out (by have:=E.out;simp only[List.length_append]at this ⊢;omega))
  go_wp2_with fail
  refine q.out.mono ?_;rintro e w2 ⟨rfl,f,d,b⟩;replace d:=(((ze (zof _ _)).mono M.out.bl:Below _ D (D.alloc (.cells #[.int .i64 x.n,.int .i64 x.no] 3)))).trans d
  replace b:=(Fram.below (ze (zof _ _)):Fram p D (D.alloc (.cells #[.int .i64 x.n,.int .i64 x.no] 3))).trans b
  have R:=hid (K.out.trans d);have O:=hid (Q.out.trans b);have S:=hid f;have ha:=b.2 _ _ _ _ s.out (by decide) C.out
  have I:=hid ha;have t:=zd ha 0;have u:=zd ha 1;have A:=zd ha 2;have y:=zd ha 3;have B:=zd ha 4;simp only[List.getElem?_toArray,List.getElem?_cons_zero,List.getElem?_cons_succ]at t u A y B;clear f d b ha q j k m l o;have N:Hid (km i.heap.size p (bs++((zk x.kind++zk x.yes)++(zk x.n++zk x.no))) w (.returned (.tuple #[])) w2):=by
   have f:=S.out;have P:Wr i.heap.size p (bs++((zk x.kind++zk x.yes)++(zk x.n++zk x.no))) w2:=by simpa only[List.append_assoc]using f
   exact⟨rfl,P,R.out,O.out⟩
  go_wp2;go_end0
  exact N.out
 have e4:(x.kind==4)=false:=by simpa using L
 have es:zpg x=(zk x.kind++zk x.yes)++zk x.n:=by unfold zpg;rw[if_neg H,if_neg L]
 rw[es]at E ⊢;clear es H L;have r:=hid (zp4 i.heap.size p (w.heap.size+1) _ x.kind x.yes (w.alloc (.cells #[.int .i64 x.kind,.int .i64 x.n,.slice x.e.a x.e.n x.e.c,.int .i64 x.yes,.int .i64 x.no] 65)) (by simp) g.out.1 g.out.2.2.1 H0.out (by have:=E.out;simp only[List.length_append]at this ⊢;omega))
 go_enter Tryz.func64,Tryz.ntmps64
 go_wp2_with fail
 refine r.out.mono ?_;rintro e D ⟨rfl,f,d,b⟩;replace d:=(((ze (zof _ _)).mono H0.out.bl:Below _ (w.alloc (.cells #[.int .i64 x.kind,.int .i64 x.n,.slice x.e.a x.e.n x.e.c,.int .i64 x.yes,.int .i64 x.no] 65)) ((w.alloc (.cells #[.int .i64 x.kind,.int .i64 x.n,.slice x.e.a x.e.n x.e.c,.int .i64 x.yes,.int .i64 x.no] 65)).alloc (.cells #[.int .i64 x.kind,.int .i64 x.yes] 3)))).trans d
 replace b:=(Fram.below (ze (zof _ _)):Fram p (w.alloc (.cells #[.int .i64 x.kind,.int .i64 x.n,.slice x.e.a x.e.n x.e.c,.int .i64 x.yes,.int .i64 x.no] 65)) ((w.alloc (.cells #[.int .i64 x.kind,.int .i64 x.n,.slice x.e.a x.e.n x.e.c,.int .i64 x.yes,.int .i64 x.no] 65)).alloc (.cells #[.int .i64 x.kind,.int .i64 x.yes] 3))).trans b
 have K:=hid (X.out.trans d);have Q:=hid (F0.out.trans b);have M:=hid f;have ha:=b.2 _ _ _ _ s.out (by decide) J.out
 have C:=hid ha;have j:=zd ha 0;have k:=zd ha 1;have m:=zd ha 2;have l:=zd ha 3;have o:=zd ha 4;simp only[List.getElem?_toArray,List.getElem?_cons_zero,List.getElem?_cons_succ]at j k m l o;clear f d b ha r;have q:=hid (kn i.heap.size p _ x.n D g.out.2.1 M.out (by have:=E.out;simp only[List.length_append]at this ⊢;omega))
 go_wp2_with fail
 refine q.out.mono ?_;rintro e w2 ⟨rfl,f,d,b⟩;have R:=hid (K.out.trans d);have O:=hid (Q.out.trans b);have S:=hid f;have ha:=b.2 _ _ _ _ s.out (by decide) C.out
 have I:=hid ha;have t:=zd ha 0;have u:=zd ha 1;have A:=zd ha 2;have y:=zd ha 3;have B:=zd ha 4;simp only[List.getElem?_toArray,List.getElem?_cons_zero,List.getElem?_cons_succ]at t u A y B;clear f d b ha q j k m l o;have N:Hid (km i.heap.size p (bs++((zk x.kind++zk x.yes)++zk x.n)) w (.returned (.tuple #[])) w2):=by
  have f:=S.out;have P:Wr i.heap.size p (bs++((zk x.kind++zk x.yes)++zk x.n)) w2:=by simpa only[List.append_assoc]using f
  exact⟨rfl,P,R.out,O.out⟩
 go_wp2;go_end0
 exact N.out
theorem zs6(d:World)(p:Nat)(bs:List Int)(x:ActD)(w:World)(h:Wr d.heap.size p bs w)(t:Below d.heap.size d w)(G:Has .i64 d x.w.a x.w.n x.ws/\QRow 5 OpD.lie d x.ops x.os)(B:x.w.n<=100000/\x.ops.n<=100000/\∀y∈x.os,y.e.n<=100000)(J:(bs++zpr x).length<=9000000):
 Calls Tryz.prog 60 #[.pointer (some ⟨p,0,none⟩),.agg #[.slice x.w.a x.w.n x.w.c,.slice x.ops.a x.ops.n x.ops.c]] w (km d.heap.size p (bs++zpr x) w):=by
 have f:Below w.heap.size w (w.alloc (.cells #[.slice x.w.a x.w.n x.w.c,.slice x.ops.a x.ops.n x.ops.c] 56)):=ze (zof _ _);have H0:=hid (h.step f);have I:=hid (f.mono h.bl);have F0:=hid (Fram.below f:Fram p w (w.alloc (.cells #[.slice x.w.a x.w.n x.w.c,.slice x.ops.a x.ops.n x.ops.c] 56)));have E:=hid (zpw w #[.slice x.w.a x.w.n x.w.c,.slice x.ops.a x.ops.n x.ops.c] 56);have j:w.heap.size≠p:=by have:=h.pl;omega
 have D:=hid J;have F:=hid t;have s:=hid j;have b:=hid G;clear h J f t j G;have N:∀(fn:Fn) (first cap:Array Value) (w:World),(Instr.makeFunc fn first cap).run Tryz.prog w=.ok (.func fn first cap) w:=fun _ _ _ _=>rfl
 have es:zpr x=xr x.ws++(zk (x.ops.n:Int)++x.os.flatMap opL):=by rfl
 rw[es]at D ⊢;clear es;have r:=hid (zpA d p _ x.w x.ws (w.alloc (.cells #[.slice x.w.a x.w.n x.w.c,.slice x.ops.a x.ops.n x.ops.c] 56)) H0.out (F.out.trans I.out) b.out.1 B.1 (by have:=D.out;simp only[List.length_append]at this ⊢;omega))
 go_enter Tryz.func60,Tryz.ntmps60
 go_wp2_with fail
 refine r.out.mono ?_;rintro e M ⟨rfl,g,k,i⟩;have H:=hid (I.out.trans k);have Q:=hid (F0.out.trans i);have T:=hid g;have ha:=i.2 _ _ _ _ s.out (by decide) E.out
 have C:=hid ha;have m:=zd ha 0;have o:=zd ha 1;simp only[List.getElem?_toArray,List.getElem?_cons_zero,List.getElem?_cons_succ]at m o;clear g k i ha r;have q:=hid (zrK d p _ _ x.ops x.os opL M rfl T.out (F.out.trans H.out) b.out.2 B.2.1 (by have:=D.out;simp only[List.length_append]at this ⊢;omega) (fun y l cs w' g k i=>zuC d p cs y w' g k ⟨(kOp.inns b.out.2 y l).1.1,(kOp.inns b.out.2 y l).1.2.1,(kOp.inns b.out.2 y l).1.2.2.1,(kOp.inns b.out.2 y l).1.2.2.2.1⟩ (kOp.inns b.out.2 y l).2 (B.2.2 y l) i))
 go_wp2_with fail
 refine q.out.mono ?_;rintro e w2 ⟨rfl,g,k,i⟩;have R:=hid (H.out.trans k);have O:=hid (Q.out.trans i);have S:=hid g;have ha:=i.2 _ _ _ _ s.out (by decide) C.out
 have K:=hid ha;have u:=zd ha 0;have A:=zd ha 1;simp only[List.getElem?_toArray,List.getElem?_cons_zero,List.getElem?_cons_succ]at u A;clear g k i ha q m o;have L:Hid (km d.heap.size p (bs++(xr x.ws++(zk (x.ops.n:Int)++x.os.flatMap opL))) w (.returned (.tuple #[])) w2):=by
  have g:=S.out;have P:Wr d.heap.size p (bs++(xr x.ws++(zk (x.ops.n:Int)++x.os.flatMap opL))) w2:=by simpa only[List.append_assoc]using g
  exact⟨rfl,P,R.out,O.out⟩
 go_wp2;go_end0
 exact L.out
theorem zt3(g:World)(p:Nat)(bs:List Int)(x:TabD)(w:World)(h:Wr g.heap.size p bs w)(L:Below g.heap.size g w)(Z:wfI x.kind/\wfI x.cap/\wfI x.dflt)(hr:QRow 2 RefD.lie g x.keys x.ks/\Has .i64 g x.acts.a x.acts.n x.al/\Has .u64 g x.args.a x.args.n x.zs)(hn:x.keys.n<=100000/\x.acts.n<=100000/\x.args.n<=100000)(hl:(bs++zpB x).length<=9000000):
 Calls Tryz.prog 62 #[.pointer (some ⟨p,0,none⟩),.agg #[.int .i64 x.kind,.slice x.keys.a x.keys.n x.keys.c,.slice x.acts.a x.acts.n x.acts.c,.int .i64 x.cap,.int .i64 x.dflt,.slice x.args.a x.args.n x.args.c]] w (km g.heap.size p (bs++zpB x) w):=by
 have j:Below w.heap.size w (w.alloc (.cells #[.int .i64 x.kind,.slice x.keys.a x.keys.n x.keys.c,.slice x.acts.a x.acts.n x.acts.c,.int .i64 x.cap,.int .i64 x.dflt,.slice x.args.a x.args.n x.args.c] 63)):=ze (zof _ _);have H0:=hid (h.step j);have B0:=hid (j.mono h.bl);have F0:=hid (Fram.below j:Fram p w (w.alloc (.cells #[.int .i64 x.kind,.slice x.keys.a x.keys.n x.keys.c,.slice x.acts.a x.acts.n x.acts.c,.int .i64 x.cap,.int .i64 x.dflt,.slice x.args.a x.args.n x.args.c] 63)));have a6:=hid (zpw w #[.int .i64 x.kind,.slice x.keys.a x.keys.n x.keys.c,.slice x.acts.a x.acts.n x.acts.c,.int .i64 x.cap,.int .i64 x.dflt,.slice x.args.a x.args.n x.args.c] 63);have l:w.heap.size≠p:=by have:=h.pl;omega
 have o:=hid hl;have HW:=hid L;have i:=hid l;have m:=hid Z;have k:=hid hr;clear h hl j L l Z hr;have b1:∀(fn:Fn) (first cap:Array Value) (w:World),(Instr.makeFunc fn first cap).run Tryz.prog w=.ok (.func fn first cap) w:=fun _ _ _ _=>rfl
 have es:zpB x=zk x.kind++((zk (x.keys.n:Int)++x.ks.flatMap zoZ)++(xr x.al++((zk x.cap++zk x.dflt)++zqa x.zs))):=by rfl
 rw[es]at o ⊢;clear es;have y:=hid (kn g.heap.size p _ x.kind (w.alloc (.cells #[.int .i64 x.kind,.slice x.keys.a x.keys.n x.keys.c,.slice x.acts.a x.acts.n x.acts.c,.int .i64 x.cap,.int .i64 x.dflt,.slice x.args.a x.args.n x.args.c] 63)) m.out.1 H0.out (by have:=o.out;simp only[List.length_append]at this ⊢;omega))
 go_enter Tryz.func62,Tryz.ntmps62
 go_wp2_with fail
 refine y.out.mono ?_;rintro e w1 ⟨rfl,d,f,b⟩;have B1:=hid (B0.out.trans f);have F1:=hid (F0.out.trans b);have H1:=hid d;have ha:=b.2 _ _ _ _ i.out (by decide) a6.out
 have a5:=hid ha;have Q:=zd ha 0;have M:=zd ha 1;have T:=zd ha 2;have D:=zd ha 3;have u:=zd ha 4;have J:=zd ha 5;simp only[List.getElem?_toArray,List.getElem?_cons_zero,List.getElem?_cons_succ]at Q M T D u J;clear d f b ha y;have F:=hid (zrl g p _ _ x.keys x.ks zoZ w1 rfl H1.out (HW.out.trans B1.out) k.out.1 hn.1 (by have:=o.out;simp only[List.length_append]at this ⊢;omega) (fun x Z cs w' d _ b=>zqi _ p cs x w' (kRef.inns k.out.1 x Z) d b))
 go_wp2_with fail
 refine F.out.mono ?_;rintro e w2 ⟨rfl,d,f,b⟩;have B2:=hid (B1.out.trans f);have F2:=hid (F1.out.trans b);have H2:=hid d;have ha:=b.2 _ _ _ _ i.out (by decide) a5.out
 have a7:=hid ha;have E:=zd ha 0;have A:=zd ha 1;have G:=zd ha 2;have U:=zd ha 3;have P:=zd ha 4;have r:=zd ha 5;simp only[List.getElem?_toArray,List.getElem?_cons_zero,List.getElem?_cons_succ]at E A G U P r;clear d f b ha F Q M T D u J;have H:=hid (zpA g p _ x.acts x.al w2 H2.out (HW.out.trans B2.out) k.out.2.1 hn.2.1 (by have:=o.out;simp only[List.length_append]at this ⊢;omega))
 go_wp2_with fail
 refine H.out.mono ?_;rintro e q ⟨rfl,d,f,b⟩;have B3:=hid (B2.out.trans f);have F3:=hid (F2.out.trans b);have H3:=hid d;have ha:=b.2 _ _ _ _ i.out (by decide) a7.out
 have a1:=hid ha;have I:=zd ha 0;have R:=zd ha 1;have B:=zd ha 2;have C:=zd ha 3;have V:=zd ha 4;have Y:=zd ha 5;simp only[List.getElem?_toArray,List.getElem?_cons_zero,List.getElem?_cons_succ]at I R B C V Y;clear d f b ha H E A G U P r;have X:=hid (zp4 g.heap.size p q.heap.size _ x.cap x.dflt q rfl m.out.2.1 m.out.2.2 H3.out (by have:=o.out;simp only[List.length_append]at this ⊢;omega))
 go_wp2_with fail
 refine X.out.mono ?_;rintro e w4 ⟨rfl,d,f,b⟩;replace f:=(((ze (zof _ _)).mono H3.out.bl:Below _ q (q.alloc (.cells #[.int .i64 x.cap,.int .i64 x.dflt] 3)))).trans f
 replace b:=(Fram.below (ze (zof _ _)):Fram p q (q.alloc (.cells #[.int .i64 x.cap,.int .i64 x.dflt] 3))).trans b
 have B4:=hid (B3.out.trans f);have F4:=hid (F3.out.trans b);have H4:=hid d;have ha:=b.2 _ _ _ _ i.out (by decide) a1.out
 have a4:=hid ha;have S:=zd ha 0;have W:=zd ha 1;have N:=zd ha 2;have K:=zd ha 3;have s:=zd ha 4;have O:=zd ha 5;simp only[List.getElem?_toArray,List.getElem?_cons_zero,List.getElem?_cons_succ]at S W N K s O;clear d f b ha X I R B C V Y;have t:=hid (zro g p _ x.args x.zs w4 H4.out (HW.out.trans B4.out) k.out.2.2 hn.2.2 (by have:=o.out;simp only[List.length_append]at this ⊢;omega))
 go_wp2_with fail
 refine t.out.mono ?_;rintro e w5 ⟨rfl,d,f,b⟩;have B5:=hid (B4.out.trans f);have F5:=hid (F4.out.trans b);have H5:=hid d;have ha:=b.2 _ _ _ _ i.out (by decide) a4.out
 have b2:=hid ha;have a8:=zd ha 0;have a0:=zd ha 1;have a9:=zd ha 2;have b0:=zd ha 3;have a3:=zd ha 4;have a2:=zd ha 5;simp only[List.getElem?_toArray,List.getElem?_cons_zero,List.getElem?_cons_succ]at a8 a0 a9 b0 a3 a2;clear d f b ha t S W N K s O;have HE:Hid (km g.heap.size p (bs++(zk x.kind++((zk (x.keys.n:Int)++x.ks.flatMap zoZ)++(xr x.al++((zk x.cap++zk x.dflt)++zqa x.zs))))) w (.returned (.tuple #[])) w5):=by
  have d:=H5.out;have hh:Wr g.heap.size p (bs++(zk x.kind++((zk (x.keys.n:Int)++x.ks.flatMap zoZ)++(xr x.al++((zk x.cap++zk x.dflt)++zqa x.zs))))) w5:=by simpa only[List.append_assoc]using d
  exact⟨rfl,hh,B5.out,F5.out⟩
 go_wp2;go_end0
 exact HE.out
end Go.Proofs.YtbmcgbmegcpgnaaGreat
