/-WkFrom-/
import Derived.Test.YtockbaekcbeenaaGreatDoorMkHd1
import Derived.Test.YtockbaekcbeenaaGreatDoorMkWkVisit
import Derived.Test.YtockbaekcbeenaaGreatDoorMkWkNew
set_option linter.unusedVariables false
set_option linter.unusedSimpArgs false
set_option maxRecDepth 100000
set_option maxHeartbeats 4000000
namespace Go.Proofs.YtockbaekcbeenaaGreatDoor
open Go.Proofs.Tryz
open Go.ChangeShapes Go.WideShapes Go.ChangeAt Go.RowKit
open Au
theorem af_ {f:FuncId} {fn:Func} (h:prog.funcs[f]?=some fn) (h1:(fn.name == "runtime.NumGoroutine")=false) (h2:fn.body.isNone=false) (args:Array Value) (W:World):(callFunc f args).run prog W=.ok (.enter f args) W:=by
 have h3:fn.name ≠ "runtime.NumGoroutine" := fun e=>by rw [e] at h1;cases h1
 have h4:fn.body≠none:=fun e=>by rw [e] at h2;cases h2
 simp [callFunc,h,h3,h4]
theorem aga (tb eb n v:Nat) (E:Nat→Bool) (W:World) (h1:aB W tb [.slice (some ⟨eb,0,none⟩) (n+1) (n+1)] 60) (h2:aB W eb (eG (n+1) E) 4) (hv:v≤n) (hn:n≤1000) (hne:tb≠eb) :
  Calls prog 62 #[.int .i64 (v:Nat),.pointer (some ⟨tb,0,none⟩)] W fun e W'=>e=.returned (.bool true)∧aM (fun k=>k=eb) W W'∧aB W' tb [.slice (some ⟨eb,0,none⟩) (n+1) (n+1)] 60∧aB W' eb (eG (n+1) (fun x=>if x=v then true else E x)) 4:=by have c0:=h1.cell (i:=0) rfl;have c1:=h2.cell (i:=v) (qC ay);have f1:=h2.free v;have hvz:(v:Int)<(n:Int)+1:=ay;have H3:=aj (h2.set v (.bool true));rw [El] at H3;have H4:=aj (h1.other hne v (.bool true));go_enter func62,ntmps62;go_wp2;go_ret;exact ⟨rfl,aM.set (X:=fun k=>k=eb) (aM.refl _ _) (Or.inl rfl) _ _,H4.out,H3.out⟩
def Wk.Net.Ends (K:Wk.Net) (a:Int) (v:Nat):Prop:=∃ b:Nat,a=b∧1≤b∧b≤K.n∧∃ q,K.R b (q,v)∧K.en.getD q false=true
theorem agb {w:World} {p:Nat} {n:Nat} (f:Value) (a:Int) (c0:w.cell? ⟨p,0,none⟩=some (.int .i64 (n:Nat))) (ha:a<1∨(n:Int)<a) :
  Calls prog 42 #[.pointer (some ⟨p,0,none⟩),.int .i64 a,f] w fun e w'=>e=.returned (.tuple #[])∧w'=w:=by
 by_cases h1:a<1
 · clear ha;go_enter func42,ntmps42;go_step3
   go_wp2;(try rw [Exit.noGoto_ret]);refine bodyPost_ret (v:=.tuple #[]) aF rfl ?_;exact ⟨rfl,rfl⟩
 · have h2:(n:Int)<a:=ha.resolve_left h1;clear ha;go_enter func42,ntmps42;go_step3
   go_wp2;(try rw [Exit.noGoto_ret]);refine bodyPost_ret (v:=.tuple #[]) aF rfl ?_;exact ⟨rfl,rfl⟩
def UM (K:Wk.Net) (a:Int) (w:World) (e:Ending) (w':World):Prop:=∃ (v:Value) (E:Nat→Bool),e=.returned v∧jq w' v ((List.range (K.n+1)).filter E)∧(∀ x,E x=true↔K.Ends a x)∧Below w.heap.size w w'∧∀ k,v.ownBlock=some k→w.heap.size≤k
theorem UN {w:World} {p:Nat} {K:Wk.Net} {P D:Nat} (a:Int) (hN:qE w p K P) (hK:K.Ok P D) (hP:P≤32) (hn:K.n≤1000) (hD:D≤10000) :
  Calls prog 40 #[.pointer (some ⟨p,0,none⟩),.int .i64 a] w (UM K a w):=by
 obtain ⟨mb,sb,eb,oD,h1,_⟩:=id hN;have c0:=h1.cell (i:=0) rfl;have HN:=aj hN;have HK:=aj hK;obtain ⟨n,hn0⟩:=aC K.n;have jr:=aj hn0;rw [←hn0] at c0 hn;have mk2:∀ W:World,(Instr.makeSlice 60 (.int .i64 ((n:Int)+1)) (.int .i64 ((n:Int)+1))).run prog W=.ok (.slice (some ⟨W.heap.size,0,none⟩) (n+1) (n+1)) (W.alloc (.cells (madeCells #[.bool false] (n+1)) 4)):=fun W=>mk_one underlying60 Tryz.infoBoolW ay rfl (n+1) ay W;have wn:IntKind.i64.wrap ((n:Int)+1)=(n:Int)+1:=by rw [IntKind.wrap_i64];omega
 obtain ⟨iI,qP,zq,hsI,zw⟩:=nI Tryz.infoIntW;clear hN hK hn0 h1;go_enter func40,ntmps40;go_upto_region 2 with fail
 obtain ⟨eb,hbe⟩:=aC w.heap.size;obtain ⟨w1,hw1⟩:=aC (w.alloc (.cells (madeCells #[.bool false] (n+1)) 4));obtain ⟨tb,htb⟩:=aC (eb+1);obtain ⟨w2,hw2⟩:=aC (w1.alloc (.cells #[.slice (some ⟨eb,0,none⟩) (n+1) (n+1)] 60));have hb1:Below w.heap.size w w1:=by rw [hw1];exact (Below.refl _ _).alloc aG _
 have hb2:Below w1.heap.size w1 w2:=by rw [hw2];exact (Below.refl _ _).alloc aG _
 have hs1:w1.heap.size=tb:=by rw [hw1,htb,hbe];simp
 have hs2:w2.heap.size=tb+1:=by rw [hw2];simp [hs1]
 have hE2:aB w2 eb (eG (n+1) fun _=>false) 4:=by rw [hw2];refine aB.alloc ?_ _;rw [hw1,hbe];exact aB.new' rfl (tT (n+1))
 have qV:aB w2 tb [.slice (some ⟨eb,0,none⟩) (n+1) (n+1)] 60:=by rw [hw2];exact aB.new' hs1 rfl
 have hB2:=aI hb1 hb2;have HB2:=aj hB2;have HC:Hid (Calls prog 42 #[.pointer (some ⟨p,0,none⟩),.int .i64 a,.func (.func 62) #[] #[.pointer (some ⟨tb,0,none⟩)]] w2 (fun e W=>∃ E,e=.returned (.tuple #[])∧Below w.heap.size w W∧aB W tb [.slice (some ⟨eb,0,none⟩) (n+1) (n+1)] 60∧aB W eb (eG (n+1) E) 4∧∀ x,E x=true↔K.Ends a x)):=by
  refine aj ?_;by_cases ha:1≤a∧a≤(n:Int)
  · obtain ⟨b,rfl⟩:=Int.eq_ofNat_of_zero_le (show 0≤a by omega);have h:=afZ (w:=w2) (w0:=w) (p:=p) (K:=K) (P:=P) (D:=D) 62 #[.pointer (some ⟨tb,0,none⟩)] (fun k=>k=eb)
     (fun E W=>aB W tb [.slice (some ⟨eb,0,none⟩) (n+1) (n+1)] 60∧aB W eb (eG (n+1) E) 4) (fun _ _=>False) b HN.out
     (fun W hf=>hB2.trans (aM.below hf hB2.size (fun k hk e=>ay))) HK.out hP (by rw [←jr.out];exact hn) hD (by rw [←jr.out];omega)
     { call:=fun E v W h1 h2 hq=>(aga tb eb n v E W hq.1 hq.2 (by rw [jr.out];exact h2) hn ay).mono fun e W' h=>⟨h.2.1,Or.inl ⟨h.1,h.2.2⟩⟩,old:=fun k hk=>ay,ent:=fun args W=>af_ func62 aF aF args W,aW:=fun E W W' hq hf=>⟨hq.1.aW hf ay,hq.2.aW hf ay⟩,afT:=fun _ _ _ h _=>h }
     ⟨qV,hE2⟩
    refine h.mono ?_;rintro e W ⟨rfl,hf,⟨E,hq,hE⟩ | ⟨_,_,hz,_⟩⟩;{refine ⟨E,rfl,hB2.trans (aM.below hf hB2.size (fun k hk e=>ay)),hq.1,hq.2,fun x=>?_⟩;rw [hE x];exact ⟨fun h=>⟨b,rfl,ay,by rw [←jr.out];omega,h⟩,fun ⟨b',e,_,_,h⟩=>by have hbb:b'=b:=ay;rw [←hbb];exact h⟩};{exact hz.elim}
  {refine (agb (n:=n) _ a (aD hB2 c0) ay).mono ?_;rintro e W ⟨rfl,rfl⟩;exact ⟨_,rfl,hB2,qV,hE2,fun x=>⟨fun h=>absurd h aH,fun ⟨b,e,h1,h2,_⟩=>absurd ⟨ay,by rw [jr.out];omega⟩ ha⟩⟩}
 rw [←hbe,←hw1,←htb,←hw2];clear hw1 hw2 hs1 hs2 hb1 hb2 hE2 qV hB2 hbe htb;go_wp2_with (go_at_call 42;refine HC.out.mono ?_;rintro e w3 ⟨E,rfl,hB3,Co,y8,hiff⟩;have c5:=Co.cell (i:=0) rfl;have yH:=aj fun i (hi:i<n+1)=>y8.cell (i:=i) (qC hi);have agc:=aj hiff;have HB3:=aj hB3;have HFS:=aj fun i=>ZB E i;have La:=aj fun i=>filter_le E i;clear Co y8 hiff hB3)
 go_loopg [6,21] (n+1) (fun gk s6 vK wr=>∃ (i:Nat) (v:Value),s6=v∧vK=.int .i64 i∧i≤n+1∧n+1-i≤gk∧Hid (Below w3.heap.size w3 wr)∧Hid (wr.ownsRow w3.heap.size 3 1 v ((List.range i).filter E).length (kQ ((List.range i).filter E))))
 case atStart=>exact ⟨0,_,rfl,rfl,ay,ay,Below.refl _ _,aj (World.ownsRow_nil _ _ _ _)⟩
 case round=>
  obtain ⟨i,v,hv,rfl,hi,hg,HB,HO⟩:=hrel;have hv:=hv.symm;subst hv;by_cases hlt:i<n+1
  · have hltz:(i:Int)<(n:Int)+1:=ay;have e0:=aD HB.out (yH.out i hlt);have hfs:=HFS.out i;have hfl:=La.out i;have hB0:=HB.out.size;obtain ⟨be,hbe⟩:=aC (E i);rw [←hbe] at e0 hfs;have UO:=aj hfs;clear hbe hfs;cases be with
    | false=>
     go_wp2;go_roundg (n+1-(i+1))
     (case measure=>omega);case rel=>exact ⟨i+1,v,rfl,aN,ay,ay,HB.out,aj (by have e:=UO.out;simp only [Bool.false_eq_true,if_false,List.append_nil] at e;rw [e];exact HO.out)⟩
    | true=>
     (go_wp2_with (at_builtin;refine nD rfl (.tmp 27) (.tmp 29) 35 rfl w3.heap.size 3 iI _ 1 8 underlying35 qP zq hsI zw rfl aL v _ _ (by rfl) (HO.out.alloc _) (some ⟨wr.heap.size,0,none⟩) 1 1 [.int .i64 (i:Nat)] (by rfl) (fun h=>by cases h) rfl (vM wr _ 3) (En i) (by unfold maxLen;omega) ay (by simp;omega) ?_));intro v' w4 hown hgr hmv;have HB2:=aj (yg (HB.out.alloc ay (.cells #[.int .i64 (i:Nat)] 3)) (by simp;omega) hgr (fun k hk=>(HO.out.lt k hk).1));have HOW:=aj hown;clear hown hgr hmv;go_wp2;go_roundg (n+1-(i+1))
     (case measure=>omega);case rel=>exact ⟨i+1,v',rfl,aN,ay,ay,HB2.out,aj (by have e:=UO.out;simp only [if_true] at e;rw [e,List.length_append,show kQ ((List.range i).filter E++[i])=kQ ((List.range i).filter E)++[.int .i64 (i:Nat)] by simp [kQ]];exact HOW.out)⟩
  {obtain rfl:i=n+1:=ay;have hltz:¬ (n:Int)+1<(n:Int)+1:=ay;have Tj:¬ ((n+1:Nat):Int)<(n:Int)+1:=ay;go_wp2;go_ret;exact ⟨_,E,rfl,by rw [←jr.out];exact IU HO.out,agc.out,aI HB3.out HB.out,fun k e=>Nat.le_trans HB3.out.size (HO.out.lt k e).1⟩}
end Go.Proofs.YtockbaekcbeenaaGreatDoor
namespace Go.Proofs.YtockbaekcbeenaaGreatDoor
open Go.Proofs.Tryz
open Go.ChangeShapes Go.WideShapes Go.ChangeAt Go.RowKit
open Au
def uX (sp:Option Addr) (x:Pt) (v u:Value) (K:Wk.Net) (P:Nat) (w:World):Prop:=
 Calls prog 39 #[.pointer sp,pv x v u] w fun e w'=>∃ p,e=.returned (.tuple #[.pointer (some ⟨p,0,none⟩),.int .i64 0])∧qE w' p K P∧Below w.heap.size w w'
def uY (sp:Option Addr) (x:Pt) (v u:Value) (k:Int) (w:World):Prop:=
 Calls prog 39 #[.pointer sp,pv x v u] w fun e w'=>e=.returned (.tuple #[.pointer none,.int .i64 k])∧Below w.heap.size w w'
theorem agd (x:Pt) (v u:Value) (w:World):uY none x v u 1 w:=by unfold uY pv;go_enter func39,ntmps39;go_wp2;refine bodyPost_ret (results_tmp2 rfl _ _ _) rfl ?_;exact ⟨rfl,(Below.refl _ _).alloc aG _⟩
theorem agf {sp:Nat} (x:Pt) (v u:Value) (w:World) (hP:fT w v u x) (xB:T8 w) (hm:x.may=false):uY (some ⟨sp,0,none⟩) x v u 1 w:=by
 have AN:=aj fun W (hW:fT W v u x) (hT:T8 W)=>(TH x v u W hW hT (fun h=>by rw [hm] at h;cases h)).mono fun e w' (h:LQ x W e w')=>(show e=.returned (.tuple #[.pointer none,.int .i64 1])∧Below W.heap.size W w' from by
  obtain ⟨hb,⟨_,h2⟩ | ⟨h1,_⟩ | ⟨h1,_⟩⟩:=h;{exact ⟨h2,hb⟩};{rw [hm] at h1;cases h1}
  · rw [hm] at h1;cases h1)
 have HP:=aj hP;have p8:=aj xB;obtain ⟨pb,hpb⟩:=aC w.heap.size;obtain ⟨w1,hw1⟩:=aC (w.alloc (.cells #[.int .i64 x.kind,aA x.text,v,u] 26));have hb1:Below w.heap.size w w1:=by rw [hw1];exact (Below.refl _ _).alloc aG _
 have lC:=aj (show aB w1 pb [.int .i64 x.kind,aA x.text,v,u] 26 from by rw [hw1,hpb];exact aB.new _ _ _);have HB1:=aj hb1;clear hP xB hm;unfold uY;unfold pv at AN ⊢;go_enter func39,ntmps39;go_upto_region 1 with fail
 rw [←hw1,←hpb];clear hw1 hpb hb1;obtain ⟨k0,k1,k2,k3⟩:=Uq7 lC.out;go_wp2_with (go_at_call 55;refine (AN.out w1 (HP.out.keep HB1.out) (p8.out.keep HB1.out)).mono ?_;rintro e w2 ⟨rfl,hb2⟩;have HB2:=aj (aI HB1.out hb2);clear hb2)
 refine bodyPost_ret (results_tmp2 rfl _ _ _) rfl ?_;exact ⟨rfl,HB2.out⟩
theorem agh (sp:Option Addr) (x:Pt) (v u:Value) (k:Int) (hk:k≠0) (node:Int) (w:World) (h:∀ W,Below w.heap.size w W→uY sp x v u k W) :
  Calls prog 15 #[.pointer sp,pv x v u,.int .i64 node] w fun e w'=>e=.returned (.tuple #[.slice none 0 0,.int .i64 k])∧Below w.heap.size w w':=by
 have H:=aj h;obtain ⟨pb,hpb⟩:=aC w.heap.size;obtain ⟨w1,hw1⟩:=aC (w.alloc (.cells #[.int .i64 x.kind,aA x.text,v,u] 26));have hb1:Below w.heap.size w w1:=by rw [hw1];exact (Below.refl _ _).alloc aG _
 have lC:=aj (show aB w1 pb [.int .i64 x.kind,aA x.text,v,u] 26 from by rw [hw1,hpb];exact aB.new _ _ _);have HB1:=aj hb1;clear h;unfold uY at H;unfold pv at H ⊢;go_enter func15,ntmps15;go_upto_region 1 with fail
 rw [←hw1,←hpb];clear hw1 hpb hb1;obtain ⟨k0,k1,k2,k3⟩:=Uq7 lC.out;go_wp2_with (go_at_call 39;refine (H.out w1 HB1.out).mono ?_;rintro e w2 ⟨rfl,hb2⟩;have HB2:=aj (aI HB1.out hb2);clear hb2)
 refine bodyPost_ret (results_tmp2 rfl _ _ _) rfl ?_;exact ⟨rfl,HB2.out⟩
theorem agi (sp:Option Addr) (x:Pt) (v u:Value) (k:Int) (hk:k≠0) (w:World) (h:∀ W,Below w.heap.size w W→uY sp x v u k W) :
  Calls prog 18 #[.pointer sp,pv x v u] w fun e w'=>e=.returned (.tuple #[.slice none 0 0,.int .i64 k])∧Below w.heap.size w w':=by
 have H:=aj h;obtain ⟨pb,hpb⟩:=aC w.heap.size;obtain ⟨w1,hw1⟩:=aC (w.alloc (.cells #[.int .i64 x.kind,aA x.text,v,u] 26));have hb1:Below w.heap.size w w1:=by rw [hw1];exact (Below.refl _ _).alloc aG _
 have lC:=aj (show aB w1 pb [.int .i64 x.kind,aA x.text,v,u] 26 from by rw [hw1,hpb];exact aB.new _ _ _);have HB1:=aj hb1;clear h;unfold uY at H;unfold pv at H ⊢;go_enter func18,ntmps18;go_upto_region 1 with fail
 rw [←hw1,←hpb];clear hw1 hpb hb1;obtain ⟨k0,k1,k2,k3⟩:=Uq7 lC.out;go_wp2_with (go_at_call 39;refine (H.out w1 HB1.out).mono ?_;rintro e w2 ⟨rfl,hb2⟩;have HB2:=aj (aI HB1.out hb2);clear hb2)
 refine bodyPost_ret (results_tmp2 rfl _ _ _) rfl ?_;exact ⟨rfl,HB2.out⟩
theorem UQ (sp:Option Addr) (x:Pt) (v u:Value) {K:Wk.Net} {P D:Nat} (node:Int) (w:World) (h:∀ W,Below w.heap.size w W→uX sp x v u K P W) (hK:K.Ok P D) (hP:P≤32) (hn:K.n≤1000) (hD:D≤10000) :
  Calls prog 15 #[.pointer sp,pv x v u,.int .i64 node] w fun e w'=>∃ (vv:Value) (E:Nat→Bool),e=.returned (.tuple #[vv,.int .i64 0])∧jq w' vv ((List.range (K.n+1)).filter E)∧(∀ x,E x=true↔K.Ends node x)∧Below w.heap.size w w':=by
 have H:=aj h;have RC:=aj fun W p (hN:qE W p K P)=>UN node hN hK hP hn hD;obtain ⟨pb,hpb⟩:=aC w.heap.size;obtain ⟨w1,hw1⟩:=aC (w.alloc (.cells #[.int .i64 x.kind,aA x.text,v,u] 26));have hb1:Below w.heap.size w w1:=by rw [hw1];exact (Below.refl _ _).alloc aG _
 have lC:=aj (show aB w1 pb [.int .i64 x.kind,aA x.text,v,u] 26 from by rw [hw1,hpb];exact aB.new _ _ _);have HB1:=aj hb1;clear h hK hP hn hD;unfold uX at H;unfold pv at H ⊢;go_enter func15,ntmps15;go_upto_region 1 with fail
 rw [←hw1,←hpb];clear hw1 hpb hb1;obtain ⟨k0,k1,k2,k3⟩:=Uq7 lC.out;go_wp2_with (first
  | (go_at_call 39;refine (H.out w1 HB1.out).mono ?_;rintro e w2 ⟨p,rfl,hnt,hb2⟩;have HB2:=aj (aI HB1.out hb2);have zB:=aj hnt;clear hb2 hnt)
  | (go_at_call 40;refine (RC.out w2 p zB.out).mono ?_;rintro e w3 ⟨vv,E,rfl,hv,hE,hb3,_⟩;have HB3:=aj (aI HB2.out hb3);have HV:=aj hv;have HE:=aj hE;clear hb3 hv hE))
 refine bodyPost_ret (results_tmp2 rfl _ _ _) rfl ?_;exact ⟨vv,E,rfl,HV.out,HE.out,HB3.out⟩
open Classical in
noncomputable def Wk.Net.xM (K:Wk.Net) (a:Int) (x:Nat):Bool:=decide (K.Ends a x)
open Classical in
theorem MC {K:Wk.Net} {a:Int} {E:Nat→Bool} (h:∀ x,E x=true↔K.Ends a x):E=K.xM a:=funext fun x=>by unfold Wk.Net.xM;by_cases hx:K.Ends a x;{rw [(h x).2 hx,decide_eq_true hx]};{rw [decide_eq_false hx];cases he:E x;{rfl};{exact absurd ((h x).1 he) hx}}
open Classical in
theorem ME (K:Wk.Net) (a:Int) (x:Nat):K.xM a x=true↔K.Ends a x:=by unfold Wk.Net.xM;exact decide_eq_true_iff
noncomputable def Wk.Net.ny (K:Wk.Net) (a:Int):List Nat:=(List.range (K.n+1)).filter (K.xM a)
noncomputable def Wk.Net.lD (K:Wk.Net) (i:Nat):List (Nat×Nat):=(List.range i).flatMap fun a=>(K.ny ((a+1:Nat):Int)).map fun b=>(a+1,b)
theorem UR (K:Wk.Net) (i:Nat):K.lD (i+1)=K.lD i++(K.ny ((i+1:Nat):Int)).map fun b=>(i+1,b):=by unfold Wk.Net.lD;rw [List.range_succ,List.flatMap_append];simp
theorem UU (K:Wk.Net) (a:Int):(K.ny a).length≤K.n+1:=filter_le _ _
theorem agj (K:Wk.Net) (i:Nat):(K.lD i).length≤i*(K.n+1):=by have h:=Wk.nW (f:=fun a=>(K.ny ((a+1:Nat):Int)).map fun b=>(a+1,b)) (D:=K.n+1) (List.range i) (fun a _=>by rw [List.length_map];exact UU K _);rwa [List.length_range] at h
def ru (l:List (Nat×Nat)):List Value:=l.flatMap fun p=>[.int .i64 (p.1:Nat),.int .i64 (p.2:Nat)]
theorem agk (l k:List (Nat×Nat)):ru (l++k)=ru l++ru k:=by simp [ru]
theorem Tryz.infoPairW:(prog.info? 56).map (fun i=>(i.zero,i.size,i.bytes))=some (some (.agg #[.int .i64 0,.int .i64 0]),2,16):=aF
theorem agl (sp:Option Addr) (x:Pt) (v u:Value) {K:Wk.Net} {P D:Nat} (w:World) (h:∀ W,Below w.heap.size w W→uX sp x v u K P W) (hK:K.Ok P D) (hP:P≤32) (hn:K.n≤1000) (hD:D≤10000) :
  Calls prog 18 #[.pointer sp,pv x v u] w fun e w'=>∃ vv,e=.returned (.tuple #[vv,.int .i64 0])∧w'.ownsRow w.heap.size 56 2 vv (K.lD K.n).length (ru (K.lD K.n))∧Below w.heap.size w w':=by
 have H:=aj h;have RC:=aj fun W p a (hN:qE W p K P)=>(UN a hN hK hP hn hD).mono fun e w' (h:UM K a W e w')=>(show ∃ vv,e=.returned vv∧jq w' vv (K.ny a)∧Below W.heap.size W w'∧∀ k,vv.ownBlock=some k→W.heap.size≤k from by obtain ⟨vv,E,h1,h2,h3,h4,h5⟩:=h;rw [MC h3] at h2;exact ⟨vv,h1,h2,h4,h5⟩);have Ad:=aj fun i=>agj K i;have HPS:=aj fun i=>UR K i;have jQ:=aj fun a=>UU K a;obtain ⟨iP,hiP,Ak,hsP,Al⟩:=nI Tryz.infoPairW;obtain ⟨n,hn0⟩:=aC K.n;have jr:=aj hn0;rw [←hn0] at hn ⊢;obtain ⟨pb,hpb⟩:=aC w.heap.size;obtain ⟨w1,hw1⟩:=aC (w.alloc (.cells #[.int .i64 x.kind,aA x.text,v,u] 26));have hb1:Below w.heap.size w w1:=by rw [hw1];exact (Below.refl _ _).alloc aG _
 have lC:=aj (show aB w1 pb [.int .i64 x.kind,aA x.text,v,u] 26 from by rw [hw1,hpb];exact aB.new _ _ _);have HB1:=aj hb1;clear h hK hD hn0;unfold uX at H;unfold pv at H ⊢;go_enter func18,ntmps18;go_upto_region 1 with fail
 rw [←hw1,←hpb];clear hw1 hpb hb1;obtain ⟨k0,k1,k2,k3⟩:=Uq7 lC.out;go_wp2_with (go_at_call 39;refine (H.out w1 HB1.out).mono ?_;rintro e w2 ⟨p,rfl,hnt,hb2⟩;have HB2:=aj (aI HB1.out hb2);have zB:=aj hnt;clear hb2 hnt)
 have HC0:=aj (show w2.cell? ⟨p,0,none⟩=some (.int .i64 (n:Nat)) from by obtain ⟨mb,sb,eb,oD,h1,_⟩:=zB.out;rw [jr.out];exact h1.cell (i:=0) rfl);clear k0 k1 k2 k3 lC;go_loopg [8,9] (n+1) (fun gk s8 s9 wr=>∃ (i:Nat) (v:Value),s8=v∧s9=.int .i64 ((i+1:Nat):Int)∧i≤n∧n-i+1≤gk∧Hid (Below w2.heap.size w2 wr)∧Hid (wr.ownsRow w2.heap.size 56 2 v (K.lD i).length (ru (K.lD i))))
 case atStart=>exact ⟨0,_,rfl,rfl,ay,ay,Below.refl _ _,aj (World.ownsRow_nil _ _ _ _)⟩
 case round=>
  obtain ⟨i,v,hv,rfl,hi,hg,HB,HO⟩:=hrel;have hv:=hv.symm;subst hv;have c0:=aD HB.out HC0.out;have hsz:=HB2.out.size;have hsz2:=HB.out.size;by_cases hlt:i<n
  · have hle:((i+1:Nat):Int)≤(n:Int):=ay;have GY:=aj (RC.out wr p ((i+1:Nat):Int) (zB.out.keep HB.out));have hpl:=Ad.out i;have agm:i*(K.n+1)≤1000*1001:=Nat.mul_le_mul ay (by rw [←jr.out];omega);have hrl:=jQ.out ((i+1:Nat):Int);rw [←jr.out] at hrl;have GZ:=aj (HPS.out i);obtain ⟨RL,UW⟩:=aC (K.ny ((i+1:Nat):Int));rw [←UW] at GY GZ hrl;obtain ⟨G,hG⟩:=aC (K.lD i);rw [←hG] at HO GZ hpl;clear UW hG;obtain ⟨z,hz⟩:=aC (i+1);have HZ:=aj hz;have hzb:z≤n:=ay;rw [←hz] at GY GZ hle ⊢;obtain ⟨c,hc⟩:=aC RL.length;have HC:=aj hc;have Un:G.length≤1001000:=ay;clear hz hpl agm;(go_wp2_with fail);refine GY.out.mono ?_;rintro e w3 ⟨vv,rfl,hv3,hb3,hfr⟩;have HB3:=aj (aI HB.out hb3);have lW:=aj (qF HO.out hb3);obtain ⟨a3,c3,rfl,q1,q2,q3,q4⟩:=hv3;have HN3:=aj q4;have hz3:=hb3.size;have UY:=aj (show ∀ k,(Value.slice a3 RL.length c3).ownBlock=some k→v.ownBlock≠some k from fun k e e2=>by have:=hfr k e;have:=(HO.out.lt k e2).2;omega);have fU:=aj (show ∀ k,v.ownBlock=some k→w2.heap.size≤k from fun k e=>(HO.out.lt k e).1);obtain ⟨v0,hv0⟩:=aC v;rw [←hv0] at UY fU;clear hfr;rw [←hc] at q1 ⊢;clear hb3 q3 q4 hc;go_wp2;go_loopg [8,33] c (fun gl s8 s33 wr=>∃ (j:Nat) (v:Value),s8=v∧s33=.int .i64 j∧j≤c∧c-j≤gl∧Hid (aM (fun k=>v0.ownBlock=some k) w3 wr)∧Hid (v.ownBlock=v0.ownBlock∨∀ k,v.ownBlock=some k→w3.heap.size≤k)∧Hid (wr.ownsRow w2.heap.size 56 2 v (G++(RL.take j).map fun b=>(z,b)).length (ru (G++(RL.take j).map fun b=>(z,b)))))
    (case atStart=>exact ⟨0,v,rfl,rfl,ay,ay,aj (aM.refl _ _),aj (Or.inl (by rw [hv0])),aj (by simpa using lW.out)⟩);case round=>
     clear lW HO GY c0 hv0;obtain ⟨j,v,hv,rfl,hj,hgl,HF,HM,HO⟩:=hrel;have hv:=hv.symm;subst hv;have ahW:=HF.out.size;by_cases hjl:j<c
     · have hltz:(j:Int)<(c:Int):=ay;have hjr:j<RL.length:=(by rw [←HC.out];exact hjl);obtain ⟨b,off,rfl,hrow⟩:=gM.get HN3.out hjr;have e0:=HF.out.cell (UY.out b rfl) (hrow j hjr);have iB:=aj (show RL.take (j+1)=RL.take j++[RL.getD j 0] by rw [List.take_succ_eq_append_getElem hjr];simp [List.getD,hjr]);obtain ⟨y,hy⟩:=aC (RL.getD j 0);rw [←hy] at e0 iB;have htl:(RL.take j).length≤j:=(by rw [List.length_take];exact Nat.min_le_left _ _);have hLn:(G++(RL.take j).map fun b=>(z,b)).length≤2000000:=(by rw [List.length_append,List.length_map];omega);clear hy hrow htl;obtain ⟨R,hR⟩:=aC (G++(RL.take j).map fun b=>(z,b));have HR:=aj hR;rw [←hR] at HO hLn;clear hR;(go_wp2_with (at_builtin;refine nD rfl (.tmp 37) (.tmp 41) 41 rfl w2.heap.size 56 iP _ 2 16 underlying41 hiP Ak hsP Al rfl aL v _ _ (by rfl) (HO.out.alloc _) (some ⟨wr.heap.size,0,none⟩) 1 1 [.int .i64 (z:Nat),.int .i64 (y:Nat)] (by rfl) (fun h=>by cases h) rfl (vM wr _ 56) (IQ z y) (by unfold maxLen;omega) ay (by simp;omega) ?_));intro v' w4 hown hgr hmv;have sQ:=aj (HF.out.trans ((aM.of_below (X:=fun k=>v.ownBlock=some k) ((Below.refl _ _).alloc aG (.cells #[.int .i64 (z:Nat),.int .i64 (y:Nat)] 56))).trans (iT hgr) (fun _ _ e=>e)) (fun k hk e=>by
        rcases HM.out with h | h;{rw [←h];exact e}
        · have:=h k e;omega))
       have gT:=aj (show v'.ownBlock=v0.ownBlock∨∀ k,v'.ownBlock=some k→w3.heap.size≤k from by
        rcases hmv with h1 | ⟨k',h1,h2⟩;{rcases HM.out with h | h;{exact Or.inl (h1.trans h)};{exact Or.inr fun k e=>h k (by rw [←h1];exact e)}}
        · refine Or.inr fun k e=>?_;rw [h1] at e;cases e;simp at h2;omega)
       have yM:=aj (show w4.ownsRow w2.heap.size 56 2 v' (G++(RL.take (j+1)).map fun b=>(z,b)).length (ru (G++(RL.take (j+1)).map fun b=>(z,b))) from by rw [iB.out,List.map_append,←List.append_assoc,←HR.out,List.length_append,agk];exact hown);clear hown hgr hmv;go_wp2;go_roundg (c-(j+1))
       (case measure=>omega);case rel=>exact ⟨j+1,v',rfl,aN,ay,ay,sQ.out,gT.out,yM.out⟩
     · obtain rfl:c=j:=ay;have hltz:¬ (c:Int)<(c:Int):=ay;have qA:=aj (show wr.ownsRow w2.heap.size 56 2 v (K.lD (i+1)).length (ru (K.lD (i+1))) from by have h:=HO.out;rw [HC.out,List.take_length] at h;rw [←HZ.out,GZ.out];exact h);have aQ:=aj (show Below w2.heap.size w2 wr from HB3.out.trans (aM.below HF.out ay (fun k hk e=>by have:=fU.out k e;omega)));go_wp2;go_roundg (n-(i+1)+1)
       (case measure=>omega);case rel=>exact ⟨i+1,v,rfl,by rw [HZ.out];go_num,ay,ay,aQ.out,qA.out⟩
  · obtain rfl:n=i:=ay;have hle:¬ ((n+1:Nat):Int)≤(n:Int):=ay;have jA:=aj (show wr.ownsRow w.heap.size 56 2 v (K.lD n).length (ru (K.lD n)) from by
     obtain ⟨h0,h1 | ⟨g,cap,cur,e1,e2,r⟩⟩:=HO.out;{exact ⟨h0,Or.inl h1⟩}
     · exact ⟨h0,Or.inr ⟨g,cap,cur,e1,ay,r⟩⟩)
    go_wp2;refine bodyPost_ret (results_tmp2 rfl _ _ _) rfl ?_;exact ⟨_,rfl,jA.out,aI HB2.out HB.out⟩
end Go.Proofs.YtockbaekcbeenaaGreatDoor
