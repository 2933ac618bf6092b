/-GSo2-/
import Derived.Test.YtockbaekcbeenaaGreatDoorMkHd1
import Derived.Test.YtockbaekcbeenaaGreatDoorMkSoBuild
import Derived.Test.YtockbaekcbeenaaGreatDoorMkGTri
import Derived.Lib.ConvBytes
import Derived.WalkMore
set_option linter.unusedVariables false
set_option linter.unusedSimpArgs false
set_option maxRecDepth 100000
set_option maxHeartbeats 2000000
namespace Go.Proofs.YtockbaekcbeenaaGreatDoor
open Go.Proofs.Tryz
open Go.ChangeShapes Go.WideShapes Go.ChangeAt Go.RowKit Go.Sort
theorem SA {W:World} {base g cap:Nat} {E:List T3} (h:W.ownsRow base 63 3 (.slice (some ⟨g,0,none⟩) E.length cap) E.length (cO E)) (hc:E.length≤cap) (hm:cap≤maxLen):bQ W (.slice (some ⟨g,0,none⟩) E.length cap) E:=by refine ⟨some ⟨g,0,none⟩,cap,rfl,hc,hm,(fun h=>by cases h),Or.inr ⟨g,0,rfl,fun i hi c hc=>?_⟩⟩;rw [Nat.zero_add,h.cellAt _ ay,FP E i c hi hc]
theorem SB {w:World} {b off:Nat} {E:List T3} (h:∀ i (h:i<E.length) c,c<3→w.cell? ⟨b,off+i*3+c,none⟩=(bW E[i])[c]?):∀ j u,(cO E)[j]?=some u→w.cell? ⟨b,off+j,none⟩=some u:=by
 intro j u hu;have hj:j<E.length*3:=by rw [←uD];exact (List.getElem?_eq_some_iff.1 hu).1
 have hi:j / 3<E.length:=ay;have h1:=h (j / 3) hi (j % 3) (Nat.mod_lt _ aL);have h2:=FP E (j / 3) (j % 3) hi (Nat.mod_lt _ aL);rw [show j / 3*3+j % 3=j by omega] at h2;rw [show off+j / 3*3+j % 3=off+j by omega,←h2,hu] at h1;exact h1
theorem aeE (v0:Value) (E:List T3) (w:World) (h:bQ w v0 E) (hl:E.length≤1000000) :
  Calls prog 87 #[v0] w fun e w'=>∃ v',e=.returned v'∧bQ w' v' E∧(0<E.length→w'.ownsRow w.heap.size 63 3 v' E.length (cO E))∧Below w.heap.size w w':=by
 obtain ⟨i0,hi,hz0,hz1,hz2⟩:=FM;have hx:=h;obtain ⟨a,cap,rfl,h2,h3,h4,h5⟩:=hx;cases a with
 | none=>have hcap:=h4 rfl;have h0:E=[]:=List.eq_nil_of_length_eq_zero ay;have:=AnyE.slices_Clone_nil Tryz.cloneTerms E.length cap w;change Calls prog 87 _ _ _ at this;refine this.mono ?_;rintro e w' ⟨rfl,rfl⟩;subst h0;exact ⟨_,rfl,bQ.nil _,fun h=>absurd h aH,Below.refl _ _⟩
 | some ad=>rcases h5 with h5 | ⟨b,off,e,h5⟩;{have h0:E=[]:=List.eq_nil_of_length_eq_zero h5;subst h0;have he:=fun W=>Go.Lib.run_eql_slice_nil (P:=prog) W 52 63 (some ad) 0 cap 0 0 underlying52;simp only [List.length_nil] at *;clear h h2 h5 hl;go_enter func87,ntmps87;(go_wp2_with (at_builtin;refine wpList_append_own _ rfl _ _ 52 rfl w.heap.size 63 i0 _ 3 40 underlying52 hi hz0 hz1 hz2 rfl aL _ _ _ rfl (World.ownsRow_made w #[] 0 aG (Nat.zero_le _) aH) ad 0 cap [] rfl ?qc1 ?qc2 ?qc3 ?qc4 ?qc5 ?qc6 ?_));(case qc1=>rfl);(case qc2=>intro j u hj;simp at hj);(case qc3=>intro u hu;cases hu);(case qc4=>unfold maxLen;omega);(case qc5=>omega);(case qc6=>simp);intro v' w1 hown hgrow hnil;have hb:Below w.heap.size w w1:=((Below.refl _ w).alloc aG _).grown hgrow aH (by intro k hk;simp [Value.ownBlock] at hk;omega);obtain ⟨a,cp,rfl,k1,k2⟩:∃ a cp,v'=.slice a 0 cp∧0≤cp∧(cp≤maxLen∧(a=none→cp=0)):=(by rcases hown.2 with ⟨rfl,_⟩ | ⟨g,cp,cur,rfl,hg,hh,hcp,hcm,_⟩;{exact ⟨none,0,rfl,Nat.le_refl _,by unfold maxLen;omega,fun _=>rfl⟩};{exact ⟨_,cp,rfl,hcp,hcm,fun h=>by cases h⟩});have HH:=aj (And.intro k1 k2);clear hown hgrow hnil k1 k2;have HB:=aj hb;clear hb;go_wp2;go_ret;exact ⟨_,rfl,⟨a,cp,rfl,HH.out.1,HH.out.2.1,HH.out.2.2,Or.inl rfl⟩,fun h=>absurd h aH,HB.out⟩};{cases e;have hc:=SB h5;have:=AnyE.slices_Clone Tryz.cloneTerms i0 _ 3 40 hi hz0 hz1 hz2 rfl aL sizeOf63 b off E.length cap (cO E) w (uD E) (by unfold maxLen;omega) ay hc (qO E);change Calls prog 87 _ _ _ at this;refine this.mono ?_;rintro e w' ⟨v',rfl,hO,hne,hb⟩;have vT:=hO;rcases hO.2 with ⟨rfl,_⟩ | ⟨g,cp,cur,rfl,hg,hh,hcp,hcm,_⟩;{exact absurd rfl hne};{exact ⟨_,rfl,SA vT hcp hcm,fun _=>vT,hb⟩}}
end Go.Proofs.YtockbaekcbeenaaGreatDoor
namespace Go.Proofs.YtockbaekcbeenaaGreatDoor
open Go.Proofs.Tryz
open Go.ChangeShapes Go.WideShapes Go.ChangeAt Go.RowKit
theorem F6 (k k2:Nat) (t x t2 x2:List UInt8) (W:World) (hk:1≤k∧k≤5) (hk2:1≤k2∧k2≤5) (ht:t.length≤1000000000) (hx:x.length≤1000000000) (ht2:t2.length≤1000000000) (hx2:x2.length≤1000000000) :
  Calls prog 75 #[dV (k:Nat) t x,dV (k2:Nat) t2 x2] W fun e W'=>e=.returned (.int .i64 (Tm.cmp (Tm.aO k t x) (Tm.aO k2 t2 x2)))∧Below W.heap.size W W':=by
 have S1:=aj (fun W=>yw k t x W hk ht hx);have S2:=aj (fun W=>yw k2 t2 x2 W hk2 ht2 hx2);obtain ⟨a,ha⟩:=aC (Tm.aO k t x);obtain ⟨b,hb⟩:=aC (Tm.aO k2 t2 x2);rw [←ha] at S1 ⊢;rw [←hb] at S2 ⊢;clear ha hb;go_enter func75,ntmps75;go_wp2;obtain ⟨w2,hw2⟩:=aC (((W.alloc (.cells #[.int .i64 (k:Nat),aA t,aA x] 63)).alloc (.cells #[.int .i64 (k2:Nat),aA t2,aA x2] 63)));have HB:=aj (show Below W.heap.size W w2 by rw [hw2];exact ((Below.refl W.heap.size W).alloc aG _).alloc aH _);have hb1:=((Below.refl (W.alloc (.cells #[.int .i64 (k:Nat),aA t,aA x] 63)).heap.size (W.alloc (.cells #[.int .i64 (k:Nat),aA t,aA x] 63))).alloc aG (.cells #[.int .i64 (k2:Nat),aA t2,aA x2] 63));rw [←hw2] at hb1 ⊢;obtain ⟨c0,c1,c2,_⟩:=bF hb1;have d0:w2.cell? ⟨W.heap.size+1,0,none⟩=some (.int .i64 (k2:Nat)):=by have:=kK (W.alloc (.cells #[.int .i64 (k:Nat),aA t,aA x] 63)) #[.int .i64 (k2:Nat),aA t2,aA x2] 63 (0,0) 0;rw [←hw2] at this;simpa using this
 have d1:w2.cell? ⟨W.heap.size+1,1,none⟩=some (aA t2):=by have:=kK (W.alloc (.cells #[.int .i64 (k:Nat),aA t,aA x] 63)) #[.int .i64 (k2:Nat),aA t2,aA x2] 63 (0,0) 1;rw [←hw2] at this;simpa using this
 have d2:w2.cell? ⟨W.heap.size+1,2,none⟩=some (aA x2):=by have:=kK (W.alloc (.cells #[.int .i64 (k:Nat),aA t,aA x] 63)) #[.int .i64 (k2:Nat),aA t2,aA x2] 63 (0,0) 2;rw [←hw2] at this;simpa using this
 clear hw2 hb1;have Ay:=fun p:Later w2.heap.size w2=>p.keep c0;have Az:=fun p:Later w2.heap.size w2=>p.keep c1;have AA:=fun p:Later w2.heap.size w2=>p.keep c2;have JW:=fun p:Later w2.heap.size w2=>p.keep d0;have JX:=fun p:Later w2.heap.size w2=>p.keep d1;have JY:=fun p:Later w2.heap.size w2=>p.keep d2;clear c0 c1 c2 d0 d1 d2;refine dP w2.heap.size aF aF ?_;repeat (go_big_quiet_step (first
  | (go_at_call 48;with_reducible exact Later.call aG (S1.out _))
  | (go_at_call 48;with_reducible exact Later.call aG (S2.out _))))
 refine wpQuiet_nil ?_;rintro _ ⟨p,rfl⟩;have HP:=aj (aI HB.out p.low);clear Ay Az AA JW JX JY;rcases (show (Tm.lt a b=true)∨(Tm.lt a b=false∧Tm.lt b a=true)∨(Tm.lt a b=false∧Tm.lt b a=false) by cases Tm.lt a b <;> cases Tm.lt b a <;> simp) with h | ⟨h,h'⟩ | ⟨h,h'⟩;{have HC:=aj (show Tm.cmp a b = -1 by unfold Tm.cmp;rw [h];rfl);go_wp2;go_ret;exact ⟨by rw [HC.out];rfl,HP.out⟩};{have HC:=aj (show Tm.cmp a b=1 by unfold Tm.cmp;rw [h,h'];rfl);have he:(a==b)=false:=beq_eq_false_iff_ne.2 (fun e=>by rw [e,Tm.lt_irrefl] at h';cases h');go_wp2;go_ret;exact ⟨by rw [HC.out];rfl,HP.out⟩};{have HC:=aj (show Tm.cmp a b=0 by unfold Tm.cmp;rw [h,h'];rfl);have he:(a==b)=true:=beq_iff_eq.2 (Tm.zP h h');go_wp2;go_ret;exact ⟨by rw [HC.out];rfl,HP.out⟩}
theorem fZ {w:World} {P:Program} {ops:Array Oper} {o:Oper} {a:Act} {K:Act→World→Prop} {Q:Exit→Act→World→Prop} {E:Prop} (hgd:o.guard=none) (s x:Operand) (t:TypeId)
  (ho:o.op=.call { callee:=.builtin .append,args:=#[s,x],argTypes:=#[t,t] })
  (base:Nat) (e:TypeId) (i:TypeInfo) (z:Value) (size bytes:Nat) (ht:P.underlying t=some (.slice e)) (hi:P.info? e=some i) (hz:i.zero=some z)
  (hsize:i.size=size) (hby:i.bytes=bytes) (hzs:z.cells.size=size) (hsz:0<size)
  (v:Value) (n:Nat) (xs:List Value) (hs:a.eval s=v) (hown:w.ownsRow base e size v n xs)
  (sa:Option Addr) (m c:Nat) (us:List Value) (hx:a.eval x=.slice sa m c) (hnil:sa=none→m=0∧c=0) (hm:us.length=m*size) (hc:∀ ad,sa=some ad→∀ j u,us[j]?=some u→w.cell? (ad.add j)=some u) (h1:∀ u∈us,u.oneCell'=true)
  (h63:n+m≤maxLen) (hbytes:(n+m)*bytes≤140737488355328) (hbase:base≤w.heap.size)
  (h:∀ v' w',w'.ownsRow base e size v' (n+m) (xs++us)→w.grownBy w' v.ownBlock→Moved w v v'→K (a.put o.dst v') w') :
  if Region.wanted o (yielded ops a.tmps)=true then Oper.wp P o a w K Q else E:=by
 cases sa with
 | some ad=>exact tZ hgd s x t ho base e i z size bytes ht hi hz hsize hby hzs hsz v n xs hs hown ad m c us hm hx (hc ad rfl) h1 h63 hbytes hbase h
 | none=>
  obtain ⟨rfl,rfl⟩:=hnil rfl;obtain rfl:us=[]:=List.eq_nil_of_length_eq_zero (by simpa using hm);have hwd:Region.wanted o (yielded ops a.tmps)=true:=by simp [Region.wanted,hgd]
  rw [if_pos hwd];have hrun:=run_append_owned_none (P:=P) (w:=w) base t o.type e i size ht hi v n xs hown;have hk:=h v w (by simpa using hown) ⟨rfl,rfl,rfl,Nat.le_refl _,fun _ _ _=>rfl⟩ (Or.inl rfl);unfold Oper.wp execOp;simp only [ho,resolve,invoke,builtin,Sem.run_bind,Sem.run_pure,Result.andThen_ok,List.map_toArray,List.map_cons,List.map_nil,hs,hx,hrun];exact hk
theorem KV {β:Type} {p:β→Bool}:∀ {l:List β} (c:β) (r:List β),(∀ d∈l,p d=true)→p c=false→(l++c::r).takeWhile p=l∧(l++c::r).dropWhile p=c::r
 | [],c,r,_,hc=>by simp [hc]
 | d::l,c,r,h,hc=>by
  have hd:=h d aH
  have ih:=KV (p:=p) (l:=l) c r (fun e he=>h e (by simp [he])) hc
  simp [hd,ih.1,ih.2]
theorem KW {β:Type} {p:β→Bool}:∀ {l:List β},(∀ d∈l,p d=true)→l.takeWhile p=l∧l.dropWhile p=[]
 | [],_=>⟨rfl,rfl⟩
 | d::l,h=>by
  have hd:=h d aH
  have ih:=KW (p:=p) (l:=l) (fun e he=>h e (by simp [he]))
  simp [hd,ih.1,ih.2]
theorem SE {L:List T3} {t:T3} {i:Nat} (hi:i≤L.length) (hlo:∀ j (h:j<L.length),j<i→So.cT L[j] t<0) (hhi:∀ h:i<L.length,¬ So.cT L[i] t<0) :
  (L.takeWhile fun a=>decide (So.cT a t<0))=L.take i∧(L.dropWhile fun a=>decide (So.cT a t<0))=L.drop i:=by
 have h1:∀ d∈L.take i,decide (So.cT d t<0)=true:=fun d hd=>by obtain ⟨j,hj,rfl⟩:=List.getElem_of_mem hd;rw [List.length_take] at hj;rw [List.getElem_take];exact decide_eq_true (hlo j ay ay)
 have e:=List.take_append_drop i L;rcases Nat.lt_or_ge i L.length with h | h;{have hd:L.drop i=L[i]::L.drop (i+1):=List.drop_eq_getElem_cons h;have h2:=KV (p:=fun a=>decide (So.cT a t<0)) (l:=L.take i) L[i] (L.drop (i+1)) h1 (decide_eq_false (hhi h));rw [←hd,e] at h2;exact h2};{have hd:L.drop i=[]:=List.drop_eq_nil_of_le h;have ht:L.take i=L:=List.take_of_length_le h;rw [ht] at h1;rw [hd,ht];exact KW (p:=fun a=>decide (So.cT a t<0)) h1}
theorem aeF {L:List T3} {t:T3} {i:Nat} (hi:i<L.length) (hlo:∀ j (h:j<L.length),j<i→So.cT L[j] t<0) (h0:L[i]=t):So.put So.cT L t=L:=by obtain ⟨_,h2⟩:=SE (Nat.le_of_lt hi) hlo (fun _=>by rw [h0];have:=So.gB.self t;omega);unfold So.put;rw [h2,List.drop_eq_getElem_cons hi,if_pos (by rw [h0];rfl)]
theorem SF {L:List T3} {t:T3} {i:Nat} (hi:i≤L.length) (hlo:∀ j (h:j<L.length),j<i→So.cT L[j] t<0) (hhi:∀ h:i<L.length,¬ So.cT L[i] t<0∧L[i]≠t):So.put So.cT L t=L.take i++t::L.drop i:=by obtain ⟨h1,h2⟩:=SE hi hlo (fun h=>(hhi h).1);unfold So.put;rw [h1,h2,if_neg];intro h;rcases Nat.lt_or_ge i L.length with h3 | h3;{rw [List.drop_eq_getElem_cons h3,List.head?_cons] at h;exact (hhi h3).2 (Option.some.inj h)};{rw [List.drop_eq_nil_of_le h3] at h;exact absurd h aH}
theorem bQ.front {W:World} {a:Option Addr} {n cap:Nat} {L:List T3} (h:bQ W (.slice a n cap) L) (k:Nat) (hk:k≤n):bQ W (.slice a k cap) (L.take k):=by
 obtain ⟨a',cap',e,h1,h2,h3,h4⟩:=h;simp only [Value.slice.injEq] at e;obtain ⟨rfl,rfl,rfl⟩:=e;have hl:(L.take k).length=k:=by rw [List.length_take];omega
 refine ⟨a,cap,by rw [hl],ay,h2,h3,?_⟩;rcases h4 with h4 | ⟨b,off,e,h4⟩;{exact .inl ay};{exact .inr ⟨b,off,e,fun i hi c hc=>by rw [List.getElem_take];exact h4 i ay c hc⟩}
theorem bQ.back {W:World} {b off n cap:Nat} {L:List T3} (h:bQ W (.slice (some ⟨b,off,none⟩) n cap) L) (k:Nat) (hk:k≤n):bQ W (.slice (some ⟨b,off+k*3,none⟩) (n-k) (cap-k)) (L.drop k):=by obtain ⟨a',cap',e,h1,h2,h3,h4⟩:=h;simp only [Value.slice.injEq] at e;obtain ⟨rfl,rfl,rfl⟩:=e;have hl:(L.drop k).length=L.length-k:=List.length_drop ..;refine ⟨_,cap-k,by rw [hl],ay,ay,(fun h=>by cases h),?_⟩;rcases h4 with h4 | ⟨b',off',e,h4⟩;{exact .inl ay};{cases e;exact .inr ⟨b,off+k*3,rfl,fun i hi c hc=>by rw [List.getElem_drop,←h4 (k+i) ay c hc];congr 2;omega⟩}
theorem oU {W:World} {a:Option Addr} {m c:Nat} {l:List T3} (h:bQ W (.slice a m c) l):m=l.length∧(a=none→m=0∧c=0)∧∀ ad,a=some ad→∀ j u,(cO l)[j]?=some u→W.cell? (ad.add j)=some u:=by
 obtain ⟨a',c',e,h1,h2,h3,h4⟩:=h;simp only [Value.slice.injEq] at e;obtain ⟨rfl,rfl,rfl⟩:=e;refine ⟨rfl,fun h=>⟨by have:=h3 h;omega,h3 h⟩,fun ad had j u hu=>?_⟩;have hj:j<l.length*3:=by have:=(List.getElem?_eq_some_iff.1 hu).1;rwa [uD] at this
 rcases h4 with h4 | ⟨b,off,hb,hc⟩;{omega};{rw [hb] at had;cases had;rw [lG rfl];exact SB hc j u hu}
theorem aeG (p q:T3) (hp:So.dH p) (hq:So.dH q) (W:World):Calls prog 75 #[vV p,vV q] W fun e w'=>e=.returned (.int .i64 (So.cT p q))∧Below W.heap.size W w':=by obtain ⟨a1,a2,a3,a4⟩:=vW ⟨p,hp⟩;obtain ⟨b1,b2,b3,b4⟩:=vW ⟨q,hq⟩;exact F6 p.1 q.1 p.2.1 p.2.2 q.2.1 q.2.2 W ⟨a3,a4⟩ ⟨b3,b4⟩ a1 a2 b1 b2
theorem aeH {E:List T3} {t:T3} (h:∀ j (hj:j<E.length),E[j]≠t):So.num E t=0:=So.A_ fun hm=>by obtain ⟨j,hj,e⟩:=List.getElem_of_mem hm;exact h j hj e
theorem KX (p:Nat) (E:List T3) (hnd:E.Nodup) (hn:E.length≤100000) (t:T3) (w:World) (ve:Value) (h1:w.cell? ⟨p,1,none⟩=some ve) (hE:bQ w ve E) :
  Calls prog 30 #[.pointer (some ⟨p,0,none⟩),vV t] w fun e w'=>e=.returned (.int .i64 (So.num E t:Nat))∧Below w.heap.size w w':=by
 obtain ⟨a,cap,rfl,hc1,hc2,hc3⟩:=hE.open;have HT:=aj hE;have rT:=aj hnd;obtain ⟨n,hn0⟩:=aC E.length;rw [←hn0] at HT h1 hn;have HN:=aj hn0;have HP:=aj h1;clear hE hnd hc1 hc2 hc3 hn0 h1;go_enter func30,ntmps30;go_upto_region 1 with fail
 obtain ⟨k,tt,xx⟩:=t;obtain ⟨w0,hw0⟩:=aC (w.alloc (.cells #[.int .i64 (k:Nat),aA tt,aA xx] 63));have HB0:=aj (show Below w.heap.size w w0 by rw [hw0];exact (Below.refl _ _).alloc aG _);have HX0:=aj (show aB w0 w.heap.size [.int .i64 (k:Nat),aA tt,aA xx] 63 by rw [hw0];exact aB.new' rfl rfl);show Code.wp _ _ _ _ (w.alloc (.cells #[.int .i64 (k:Nat),aA tt,aA xx] 63));rw [←hw0];clear hw0;have Cj:=aj (aD HB0.out HP.out);have HT0:=aj (HT.out.keep HB0.out);have p1:=Cj.out;obtain ⟨x0,x1,x2⟩:=bO HX0.out;go_wp2;go_loopg [5] n (fun gk s5 wr=>∃ i q:Nat,s5=.int .i64 i∧i≤n∧n-i≤gk∧wr=w0.drewN q∧Hid (∀ j (hj:j<E.length),j<i→E[j]≠(k,tt,xx)))
 case atStart=>exact ⟨0,0,aN,Nat.zero_le _,Nat.le_refl _,rfl,aj (fun j hj h=>absurd h (Nat.not_lt_zero _))⟩
 case round=>
  obtain ⟨i,q,rfl,hin,hg,rfl,gX⟩:=hrel;by_cases hlt:i<n
  · have hltz:(i:Int)<(n:Int):=ay;have oP:i<E.length:=(by rw [←HN.out];exact hlt);obtain ⟨b,off,hab,hrow⟩:=HT0.out.get oP;subst hab;have c0:=hrow i oP 0 ay;have c1:=hrow i oP 1 ay;have c2:=hrow i oP 2 ay;obtain ⟨u,hu⟩:=aC (E[i]);rw [←hu] at c0 c1 c2;have HU:=aj hu;have E0:=J4 u (k,tt,xx);have r9:=aj (So.JO rT.out oP);rw [←hu] at r9;obtain ⟨m,u1,u2⟩:=u;simp only [bW,List.getElem?_cons_zero,List.getElem?_cons_succ,Nat.add_zero] at c0 c1 c2 E0;clear hu hrow;by_cases he:((m,u1,u2):T3)=(k,tt,xx)
    · have E4:=fun W=>(E0 W).trans (by rw [decide_eq_true he]);rw [he] at r9;clear E0 he;go_wp2;go_region
      go_wp2;go_ret;exact ⟨by rw [r9.out];rfl,bV HB0.out (q+1)⟩
    · have E4:=fun W=>(E0 W).trans (by rw [decide_eq_false he]);have HE:=aj he;clear E0 he r9;go_wp2;go_region
      go_wp2;go_roundg (n-(i+1))
      (case measure=>omega);case rel=>exact ⟨i+1,q+1,aN,ay,ay,rfl,fun j hj h=>by
       rcases Nat.lt_or_ge j i with h2 | h2;{exact gX.out j hj h2}
       · obtain rfl:j=i:=ay;rw [←HU.out];exact HE.out⟩
  {obtain rfl:i=n:=ay;have hltz:¬ (i:Int)<(i:Int):=ay;have r9:=aj (show So.num E (k,tt,xx)=0 from aeH fun j hj=>gX.out j hj (by rw [HN.out];exact hj));go_wp2;go_ret;exact ⟨by rw [r9.out];rfl,bV HB0.out q⟩}
end Go.Proofs.YtockbaekcbeenaaGreatDoor
