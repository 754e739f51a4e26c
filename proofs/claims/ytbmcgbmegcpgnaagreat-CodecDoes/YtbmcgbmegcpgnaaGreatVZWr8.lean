import Derived.Test.YtbmcgbmegcpgnaaGreatVZWr7
set_option maxHeartbeats 8000000
set_option maxRecDepth 20000
set_option linter.unusedSimpArgs false
namespace Go.Proofs.YtbmcgbmegcpgnaaGreat
open Go.RowKit
def zo8(x:HeadD):List Int:=xr x.ws
structure PlanD.wfew (x : PlanD) : Prop where
 hs : x.heads.n <= 100000 /\ ∀ y ∈ x.hs, y.w.n <= 100000
 ms : x.mta.n <= 100000
 ss : x.states.n <= 100000 /\ ∀ y ∈ x.ss, y.cases.n <= 100000
 al : x.acts.n <= 100000 /\ ∀ y ∈ x.al, y.w.n <= 100000 /\ y.ops.n <= 100000 /\ ∀ o ∈ y.os, o.e.n <= 100000
 ts : x.tabs.n <= 100000 /\ ∀ y ∈ x.ts, y.keys.n <= 100000 /\ y.acts.n <= 100000 /\ y.args.n <= 100000
 ns : x.nodes.n <= 100000 /\ ∀ y ∈ x.ns, y.e.n <= 100000
 os : x.out.n <= 100000
def zpK(x:PlanD):List Int:=(zk (x.heads.n:Int)++x.hs.flatMap zo8)++(xr x.ms++((zk (x.states.n:Int)++x.ss.flatMap kg)++((zk (x.acts.n:Int)++x.al.flatMap zpr)++((zk (x.tabs.n:Int)++x.ts.flatMap zpB)++((zk (x.nodes.n:Int)++x.ns.flatMap zpg)++(xr x.os))))))
theorem zuE(k:World)(p:Nat)(bs:List Int)(x:PlanD)(w:World)(h:Wr k.heap.size p bs w)(Y:Below k.heap.size k w)(hr:x.lie k)(hn:x.wfew)(hl:(bs++zpK x).length<=9000000):
 Calls Tryz.prog 19 #[.pointer (some ⟨p,0,none⟩),.agg #[.slice x.heads.a x.heads.n x.heads.c,.slice x.mta.a x.mta.n x.mta.c,.slice x.states.a x.states.n x.states.c,.slice x.acts.a x.acts.n x.acts.c,.slice x.tabs.a x.tabs.n x.tabs.c,.slice x.nodes.a x.nodes.n x.nodes.c,.slice x.out.a x.out.n x.out.c]] w (km k.heap.size p (bs++zpK x) w):=by
 have m:Below w.heap.size w (w.alloc (.cells #[.slice x.heads.a x.heads.n x.heads.c,.slice x.mta.a x.mta.n x.mta.c,.slice x.states.a x.states.n x.states.c,.slice x.acts.a x.acts.n x.acts.c,.slice x.tabs.a x.tabs.n x.tabs.c,.slice x.nodes.a x.nodes.n x.nodes.c,.slice x.out.a x.out.n x.out.c] 29)):=ze (zof _ _);have H0:=hid (h.step m);have B0:=hid (m.mono h.bl);have F0:=hid (Fram.below m:Fram p w (w.alloc (.cells #[.slice x.heads.a x.heads.n x.heads.c,.slice x.mta.a x.mta.n x.mta.c,.slice x.states.a x.states.n x.states.c,.slice x.acts.a x.acts.n x.acts.c,.slice x.tabs.a x.tabs.n x.tabs.c,.slice x.nodes.a x.nodes.n x.nodes.c,.slice x.out.a x.out.n x.out.c] 29)));have d0:=hid (zpw w #[.slice x.heads.a x.heads.n x.heads.c,.slice x.mta.a x.mta.n x.mta.c,.slice x.states.a x.states.n x.states.c,.slice x.acts.a x.acts.n x.acts.c,.slice x.tabs.a x.tabs.n x.tabs.c,.slice x.nodes.a x.nodes.n x.nodes.c,.slice x.out.a x.out.n x.out.c] 29);have q:w.heap.size≠p:=by have:=h.pl;omega
 have o:=hid hl;have r:=hid Y;have l:=hid q;have b:=hid hr;have j:=hid hn;clear h hl m Y q hr hn;have d5:∀(fn:Fn) (first cap:Array Value) (w:World),(Instr.makeFunc fn first cap).run Tryz.prog w=.ok (.func fn first cap) w:=fun _ _ _ _=>rfl
 have es:zpK x=(zk (x.heads.n:Int)++x.hs.flatMap zo8)++(xr x.ms++((zk (x.states.n:Int)++x.ss.flatMap kg)++((zk (x.acts.n:Int)++x.al.flatMap zpr)++((zk (x.tabs.n:Int)++x.ts.flatMap zpB)++((zk (x.nodes.n:Int)++x.ns.flatMap zpg)++(xr x.os)))))):=by rfl
 rw[es]at o ⊢;clear es;have D:=hid (zrg k p _ _ x.heads x.hs zo8 (w.alloc (.cells #[.slice x.heads.a x.heads.n x.heads.c,.slice x.mta.a x.mta.n x.mta.c,.slice x.states.a x.states.n x.states.c,.slice x.acts.a x.acts.n x.acts.c,.slice x.tabs.a x.tabs.n x.tabs.c,.slice x.nodes.a x.nodes.n x.nodes.c,.slice x.out.a x.out.n x.out.c] 29)) rfl H0.out (r.out.trans B0.out) b.out.hs j.out.hs.1 (by have:=o.out;simp only[List.length_append]at this ⊢;omega) (fun y i cs w' f g d=>zs5 k p cs y w' f g (kHead.inns b.out.hs y i).2 (j.out.hs.2 y i) d))
 go_enter Tryz.func19,Tryz.ntmps19
 go_wp2_with fail
 refine D.out.mono ?_;rintro e w1 ⟨rfl,f,g,d⟩;have B1:=hid (B0.out.trans g);have F1:=hid (F0.out.trans d);have H1:=hid f;have ha:=d.2 _ _ _ _ l.out (by decide) d0.out
 have c9:=hid ha;have a6:=zd ha 0;have Z:=zd ha 1;have b3:=zd ha 2;have M:=zd ha 3;have C:=zd ha 4;have V:=zd ha 5;have U:=zd ha 6;simp only[List.getElem?_toArray,List.getElem?_cons_zero,List.getElem?_cons_succ]at a6 Z b3 M C V U;clear f g d ha D;have O:=hid (zpA k p _ x.mta x.ms w1 H1.out (r.out.trans B1.out) b.out.ms j.out.ms (by have:=o.out;simp only[List.length_append]at this ⊢;omega))
 go_wp2_with fail
 refine O.out.mono ?_;rintro e w2 ⟨rfl,f,g,d⟩;have B2:=hid (B1.out.trans g);have F2:=hid (F1.out.trans d);have H2:=hid f;have ha:=d.2 _ _ _ _ l.out (by decide) c9.out
 have d1:=hid ha;have N:=zd ha 0;have E:=zd ha 1;have P:=zd ha 2;have b4:=zd ha 3;have a5:=zd ha 4;have s:=zd ha 5;have G:=zd ha 6;simp only[List.getElem?_toArray,List.getElem?_cons_zero,List.getElem?_cons_succ]at N E P b4 a5 s G;clear f g d ha O a6 Z b3 M C V U;have S:=hid (zqN k p _ _ x.states x.ss kg w2 rfl H2.out (r.out.trans B2.out) b.out.ss j.out.ss.1 (by have:=o.out;simp only[List.length_append]at this ⊢;omega) (fun y i cs w' f g d=>zt4 k p cs y w' f g ⟨(kState.inns b.out.ss y i).1.1,(kState.inns b.out.ss y i).1.2.1,(kState.inns b.out.ss y i).1.2.2.1,(kState.inns b.out.ss y i).1.2.2.2.2⟩ (kState.inns b.out.ss y i).2 (j.out.ss.2 y i) d))
 go_wp2_with fail
 refine S.out.mono ?_;rintro e w3 ⟨rfl,f,g,d⟩;have B3:=hid (B2.out.trans g);have F3:=hid (F2.out.trans d);have H3:=hid f;have ha:=d.2 _ _ _ _ l.out (by decide) d1.out
 have c4:=hid ha;have T:=zd ha 0;have b0:=zd ha 1;have F:=zd ha 2;have H:=zd ha 3;have b5:=zd ha 4;have c0:=zd ha 5;have a1:=zd ha 6;simp only[List.getElem?_toArray,List.getElem?_cons_zero,List.getElem?_cons_succ]at T b0 F H b5 c0 a1;clear f g d ha S N E P b4 a5 s G;have b9:=hid (zrm k p _ _ x.acts x.al zpr w3 rfl H3.out (r.out.trans B3.out) b.out.al j.out.al.1 (by have:=o.out;simp only[List.length_append]at this ⊢;omega) (fun y i cs w' f g d=>zs6 k p cs y w' f g (kAct.inns b.out.al y i).2 (j.out.al.2 y i) d))
 go_wp2_with fail
 refine b9.out.mono ?_;rintro e w4 ⟨rfl,f,g,d⟩;have B4:=hid (B3.out.trans g);have F4:=hid (F3.out.trans d);have H4:=hid f;have ha:=d.2 _ _ _ _ l.out (by decide) c4.out
 have c6:=hid ha;have b1:=zd ha 0;have b8:=zd ha 1;have a2:=zd ha 2;have X:=zd ha 3;have A:=zd ha 4;have a3:=zd ha 5;have b2:=zd ha 6;simp only[List.getElem?_toArray,List.getElem?_cons_zero,List.getElem?_cons_succ]at b1 b8 a2 X A a3 b2;clear f g d ha b9 T b0 F H b5 c0 a1;have B:=hid (zrn k p _ _ x.tabs x.ts zpB w4 rfl H4.out (r.out.trans B4.out) b.out.ts j.out.ts.1 (by have:=o.out;simp only[List.length_append]at this ⊢;omega) (fun y i cs w' f g d=>zt3 k p cs y w' f g ⟨(kTab.inns b.out.ts y i).1.1,(kTab.inns b.out.ts y i).1.2.2.2.1,(kTab.inns b.out.ts y i).1.2.2.2.2.1⟩ (kTab.inns b.out.ts y i).2 (j.out.ts.2 y i) d))
 go_wp2_with fail
 refine B.out.mono ?_;rintro e w5 ⟨rfl,f,g,d⟩;have B5:=hid (B4.out.trans g);have F5:=hid (F4.out.trans d);have H5:=hid f;have ha:=d.2 _ _ _ _ l.out (by decide) c6.out
 have d4:=hid ha;have a8:=zd ha 0;have t:=zd ha 1;have a9:=zd ha 2;have b6:=zd ha 3;have W:=zd ha 4;have L:=zd ha 5;have K:=zd ha 6;simp only[List.getElem?_toArray,List.getElem?_cons_zero,List.getElem?_cons_succ]at a8 t a9 b6 W L K;clear f g d ha B b1 b8 a2 X A a3 b2;have J:=hid (zrh k p _ _ x.nodes x.ns zpg w5 rfl H5.out (r.out.trans B5.out) b.out.ns j.out.ns.1 (by have:=o.out;simp only[List.length_append]at this ⊢;omega) (fun y i cs w' f g d=>zuD k p cs y w' f g ⟨(kNode.inns b.out.ns y i).1.1,(kNode.inns b.out.ns y i).1.2.1,(kNode.inns b.out.ns y i).1.2.2.2.1,(kNode.inns b.out.ns y i).1.2.2.2.2⟩ (kNode.inns b.out.ns y i).2 (j.out.ns.2 y i) d))
 go_wp2_with fail
 refine J.out.mono ?_;rintro e w6 ⟨rfl,f,g,d⟩;have B6:=hid (B5.out.trans g);have F6:=hid (F5.out.trans d);have H6:=hid f;have ha:=d.2 _ _ _ _ l.out (by decide) d4.out
 have d2:=hid ha;have a0:=zd ha 0;have a4:=zd ha 1;have Q:=zd ha 2;have R:=zd ha 3;have b7:=zd ha 4;have a7:=zd ha 5;have I:=zd ha 6;simp only[List.getElem?_toArray,List.getElem?_cons_zero,List.getElem?_cons_succ]at a0 a4 Q R b7 a7 I;clear f g d ha J a8 t a9 b6 W L K;have u:=hid (zpA k p _ x.out x.os w6 H6.out (r.out.trans B6.out) b.out.os j.out.os (by have:=o.out;simp only[List.length_append]at this ⊢;omega))
 go_wp2_with fail
 refine u.out.mono ?_;rintro e w7 ⟨rfl,f,g,d⟩;have B7:=hid (B6.out.trans g);have F7:=hid (F6.out.trans d);have H7:=hid f;have ha:=d.2 _ _ _ _ l.out (by decide) d2.out
 have d6:=hid ha;have c2:=zd ha 0;have d3:=zd ha 1;have c7:=zd ha 2;have c8:=zd ha 3;have c5:=zd ha 4;have c3:=zd ha 5;have c1:=zd ha 6;simp only[List.getElem?_toArray,List.getElem?_cons_zero,List.getElem?_cons_succ]at c2 d3 c7 c8 c5 c3 c1;clear f g d ha u a0 a4 Q R b7 a7 I;have HE:Hid (km k.heap.size p (bs++((zk (x.heads.n:Int)++x.hs.flatMap zo8)++(xr x.ms++((zk (x.states.n:Int)++x.ss.flatMap kg)++((zk (x.acts.n:Int)++x.al.flatMap zpr)++((zk (x.tabs.n:Int)++x.ts.flatMap zpB)++((zk (x.nodes.n:Int)++x.ns.flatMap zpg)++(xr x.os)))))))) w (.returned (.tuple #[])) w7):=by
  have f:=H7.out;have hh:Wr k.heap.size p (bs++((zk (x.heads.n:Int)++x.hs.flatMap zo8)++(xr x.ms++((zk (x.states.n:Int)++x.ss.flatMap kg)++((zk (x.acts.n:Int)++x.al.flatMap zpr)++((zk (x.tabs.n:Int)++x.ts.flatMap zpB)++((zk (x.nodes.n:Int)++x.ns.flatMap zpg)++(xr x.os)))))))) w7:=by simpa only[List.append_assoc]using f
  exact⟨rfl,hh,B7.out,F7.out⟩
 go_wp2;go_end0
 exact HE.out
end Go.Proofs.YtbmcgbmegcpgnaaGreat
