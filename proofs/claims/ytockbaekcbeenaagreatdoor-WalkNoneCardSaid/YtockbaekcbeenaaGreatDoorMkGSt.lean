/-GSt-/
import Derived.Test.YtockbaekcbeenaaGreatDoorMkHd1
import Derived.Sort.LotA
import Derived.Test.YtockbaekcbeenaaGreatDoorMkGB
import Derived.Test.YtockbaekcbeenaaGreatDoorMkLayG
import Derived.Deep.DeepCutAuto
set_option linter.unusedVariables false
set_option linter.unusedSimpArgs false
set_option maxRecDepth 100000
set_option maxHeartbeats 8000000
namespace Go.Proofs.YtockbaekcbeenaaGreatDoor.St
open Go Go.Sort
theorem le_trans {β:Type} {lt:β→β→Bool} {x y z:β} (hS:SWO lt) (h1:lt y x=false) (h2:lt z y=false):lt z x=false:=hS.ntrans _ _ _ h2 h1
theorem le_of_lt {β:Type} {lt:β→β→Bool} {x y:β} (hS:SWO lt) (h:lt x y=true):lt y x=false:=hS.asymmA h
variable {α:Type} [Inhabited α] {lt:α→α→Bool}
def nL (a b:Nat):Nat→Array α→Array α
 | 0,d=>d
 | n+1,d=>swp (nL a b n d) (a+n) (b+n)
theorem vX (a b:Nat):∀ (n:Nat) (d:Array α),(nL a b n d).size=d.size
 | 0,d=>rfl
 | n+1,d=>by rw [nL,size_swp,vX a b n d]
theorem Fx (a b:Nat):∀ (n:Nat) (d:Array α),a+n≤b→b+n≤d.size→∀ k,(nL a b n d)[k]! = if a≤k∧k<a+n then d[k-a+b]! else if b≤k∧k<b+n then d[k-b+a]! else d[k]!
 | 0,d,_,_,k=>by rw [nL,if_neg ay,if_neg ay]
 | n+1,d,h1,h2,k=>by
  have ih:=Fx a b n d ay ay
  have hz:=vX a b n d
  rw [nL,swp_get _ ay ay]
  by_cases e2:k=b+n
  · subst e2
    rw [ih]
    first
    | (rw [if_pos rfl])
    | skip
    repeat' split
    all_goals first | (exfalso;omega) | (congr 1;omega)
  · rw [ih,ih,ih]
    repeat' split
    all_goals first | (exfalso;omega) | (congr 1;omega) | rfl
theorem Fy (lo hi a b:Nat):∀ (n:Nat) (d:Array α),lo≤a→a+n≤b→b+n≤hi→hi≤d.size→PermIn lo hi d (nL a b n d)
 | 0,d,_,_,_,_=>permIn_refl d lo hi
 | n+1,d,h0,h1,h2,h3=>by
  have ih:=Fy lo hi a b n d h0 ay ay h3
  exact permIn_trans _ _ _ _ _ ih (swp_permIn _ lo hi (a+n) (b+n) ay ay ay ay (by rw [vX];exact h3))
def iG (a m b:Nat) (d d':Array α):Prop:=∀ k,d'[k]! = if a≤k∧k<a+(b-m) then d[k-a+m]! else if a+(b-m)≤k∧k<b then d[k-(a+(b-m))+a]! else d[k]!
theorem Rf (a m:Nat) (d:Array α) (h:a≤m):iG a m m d d:=fun k=>by
 repeat' split
 all_goals first | (exfalso;omega) | (congr 1;omega) | rfl
theorem acd (m b:Nat) (d:Array α) (h:m≤b):iG m m b d d:=fun k=>by
 repeat' split
 all_goals first | (exfalso;omega) | (congr 1;omega) | rfl
theorem ace {m i:Nat} {d:Array α} (h1:i≤m) (h2:m+i≤d.size):iG (m-i) m (m+i) d (nL (m-i) m i d):=fun k=>by
 rw [Fx (m-i) m i d ay h2];repeat' split
 all_goals first | (exfalso;omega) | (congr 1;omega) | rfl
theorem acf {m i j:Nat} {d d':Array α} (h1:i≤m) (h2:m+j≤d.size) (hij:j<i) (h:iG (m-(i-j)) m (m+j) (nL (m-i) m j d) d'):iG (m-i) m (m+j) d d':=fun k=>by
 rw [h k];simp only [Fx (m-i) m j d ay h2];repeat' split
 all_goals first | (exfalso;omega) | (congr 1;omega) | rfl
theorem acg {m i j:Nat} {d d':Array α} (h1:i≤m) (h2:m+j≤d.size) (hij:i<j) (h:iG (m-i) m (m+(j-i)) (nL (m-i) (m+j-i) i d) d'):iG (m-i) m (m+j) d d':=fun k=>by
 rw [h k];simp only [Fx (m-i) (m+j-i) i d ay ay];repeat' split
 all_goals first | (exfalso;omega) | (congr 1;omega) | rfl
theorem ach {a k:Nat} {d d':Array α} (h:iG a (a+1) (k+1) d d') (hk:a≤k) (hs:k+1<d'.size):iG a (a+1) (k+2) d (swp d' k (k+1)):=fun x=>by
 rw [swp_get _ ay hs,h x,h k,h (k+1)];repeat' split
 all_goals first | (exfalso;omega) | (congr 1;omega) | rfl
theorem aci {m k:Nat} {d d':Array α} (h:iG (k+1) m (m+1) d d') (hk:k+1≤m) (hs:m<d'.size):iG k m (m+1) d (swp d' (k+1) k):=fun x=>by
 rw [swp_get _ ay ay,h x,h k,h (k+1)];repeat' split
 all_goals first | (exfalso;omega) | (congr 1;omega) | rfl
theorem qL {a b i j:Nat} {d:Array α} (hS:SWO lt) (h:SortedIn lt a b d) (hi:a≤i) (hij:i≤j) (hj:j<b):lt d[j]! d[i]! = false:=by rcases Nat.lt_or_ge i j with h1 | h1;{exact h i j hi h1 hj};{obtain rfl:i=j:=ay;exact hS.irrefl _}
theorem acj {a i b:Nat} {d d':Array α} (hS:SWO lt) (h2:SortedIn lt (a+1) b d) (hai:a+1≤i) (hib:i≤b)
  (hl:i=a+1∨lt d[i-1]! d[a]! = true) (hr:i=b∨lt d[i]! d[a]! = false) (hR:iG a (a+1) i d d'):SortedIn lt a b d':=by
 intro p q hp hpq hq;rw [hR p,hR q];repeat' split
 all_goals try (exfalso;omega)
 {exact h2 _ _ ay ay ay};{rename_i c1 c2 c3;have e:p-a+(a+1)=p+1:=ay;have Bf:q-(a+(i-(a+1)))+a=a:=ay;rw [e,Bf];rcases hl with hl | hl;{omega};{have:=qL hS h2 (i:=p+1) (j:=i-1) ay ay ay;exact le_trans hS this (le_of_lt hS hl)}};{exact h2 _ _ ay ay ay};{rename_i c1 c2 c3 c4;have e0:p-(a+(i-(a+1)))+a=a:=ay;rw [e0];rcases hr with hr | hr;{omega};{exact le_trans hS hr (qL hS h2 ay ay hq)}};{exact h2 _ _ ay ay ay}
theorem acn {a i m:Nat} {d d':Array α} (hS:SWO lt) (h1:SortedIn lt a m d) (hai:a≤i) (hib:i≤m)
  (hl:i=a∨lt d[m]! d[i-1]! = false) (hr:i=m∨lt d[m]! d[i]! = true) (hR:iG i m (m+1) d d'):SortedIn lt a (m+1) d':=by
 have g1:∀ k,k<i→d'[k]! = d[k]!:=fun k hk=>by rw [hR k,if_neg ay,if_neg ay]
 have g2:d'[i]! = d[m]!:=by rw [hR i,if_pos ay];congr 1;omega
 have g3:∀ k,i<k→k≤m→d'[k]! = d[k-1]!:=fun k h3 h4=>by rw [hR k,if_neg ay,if_pos ay];congr 1;omega
 intro p q hp hpq hq;rcases Nat.lt_trichotomy q i with c | c | c;{rw [g1 p ay,g1 q c];exact h1 p q hp hpq ay};{subst c;rw [g2,g1 p hpq];rcases hl with hl | hl;{omega};{exact le_trans hS (qL hS h1 hp (show p≤q-1 by omega) ay) hl}}
 · rw [g3 q c ay];rcases Nat.lt_trichotomy p i with c' | c' | c';{rw [g1 p c'];exact h1 _ _ ay ay ay}
   · subst c';rw [g2];rcases hr with hr | hr;{omega}
     · cases hh:lt d[q-1]! d[m]! with
       | false=>rfl
       | true=>have h3:=qL hS h1 (i:=p) (j:=q-1) hai ay ay;have:=hS.trans _ _ _ hh hr;rw [h3] at this;cases this
   {rw [g3 p c' ay];exact h1 _ _ ay ay ay}
structure aco (lt:α→α→Bool) (a s mid e b:Nat) (d:Array α):Prop where
 l1:SortedIn lt a s d
 l2:SortedIn lt s mid d
 r1:SortedIn lt mid e d
 r2:SortedIn lt e b d
 cross:∀ i j,a≤i→i<mid→mid≤j→j<b→lt d[j]! d[i]! = false
theorem halves {a m b mid s e:Nat} {d d':Array α} (hS:SWO lt) (h1:SortedIn lt a m d) (h2:SortedIn lt m b d) (hs0:a≤s) (hsm:s≤m) (hme:m≤e) (heb:e≤b) (hmid:mid+m=s+e)
  (hl:s=a∨e=b∨lt d[e]! d[s-1]! = false) (hr:s=m∨e=m∨lt d[e-1]! d[s]! = true) (hR:iG s m e d d'):aco lt a s mid e b d':=by
 have g:∀ k,k<s→d'[k]! = d[k]!:=fun k hk=>by rw [hR k,if_neg ay,if_neg ay]
 have g1:∀ k,s≤k→k<mid→d'[k]! = d[k-s+m]!:=fun k h3 h4=>by rw [hR k,if_pos ay]
 have g2:∀ k,mid≤k→k<e→d'[k]! = d[k-mid+s]!:=fun k h3 h4=>by rw [hR k,if_neg ay,if_pos ay];congr 1;omega
 have g3:∀ k,e≤k→d'[k]! = d[k]!:=fun k hk=>by rw [hR k,if_neg ay,if_neg ay]
 refine ⟨?_,?_,?_,?_,?_⟩;{intro p q hp hpq hq;rw [g p ay,g q hq];exact h1 _ _ hp hpq ay};{intro p q hp hpq hq;rw [g1 p hp ay,g1 q ay hq];exact h2 _ _ ay ay ay};{intro p q hp hpq hq;rw [g2 p hp ay,g2 q ay hq];exact h1 _ _ ay ay ay};{intro p q hp hpq hq;rw [g3 p hp,g3 q ay];exact h2 _ _ ay ay ay};{intro p q hp hpm hq qM;rcases Nat.lt_or_ge p s with c1 | c1;{rw [g p c1];rcases Nat.lt_or_ge q e with c2 | c2;{rw [g2 q hq c2];exact qL hS h1 hp ay ay};{rw [g3 q c2];rcases hl with hl | hl | hl;{omega};{omega};{exact le_trans hS (le_trans hS (qL hS h1 hp (show p≤s-1 by omega) ay) hl) (qL hS h2 hme c2 qM)}}};{rw [g1 p c1 hpm];rcases Nat.lt_or_ge q e with c2 | c2;{rw [g2 q hq c2];rcases hr with hr | hr | hr;{omega};{omega};{have h3:=qL hS h2 (i:=p-s+m) (j:=e-1) ay ay ay;have h4:=qL hS h1 (i:=s) (j:=q-mid+s) hs0 ay ay;exact le_trans hS (le_trans hS h3 (le_of_lt hS hr)) h4}};{rw [g3 q c2];exact qL hS h2 ay ay qM}}}
theorem Bg {a b lo hi:Nat} {d d':Array α} (h:SortedIn lt a b d) (hP:PermIn lo hi d d') (hf:b≤lo∨hi≤a):SortedIn lt a b d':=by intro p q hp hpq hq;rw [hP.2.1 p ay,hP.2.1 q ay];exact h p q hp hpq hq
theorem Rh {a mid b:Nat} {d d1 d2:Array α} (hS:SWO lt) (hm1:a≤mid) (hm2:mid≤b) (hb:b≤d.size) (hc:∀ i j,a≤i→i<mid→mid≤j→j<b→lt d[j]! d[i]! = false)
  (hP1:PermIn a mid d d1) (hS1:SortedIn lt a mid d1) (hP2:PermIn mid b d1 d2) (hS2:SortedIn lt mid b d2):PermIn a b d d2∧SortedIn lt a b d2:=by have q1:PermIn a b d d1:=permIn_mono d d1 a mid a b aG hm2 hb hP1;have q2:PermIn a b d1 d2:=permIn_mono d1 d2 mid b a b hm1 aG (by rw [hP1.1];exact hb) hP2;refine ⟨permIn_trans _ _ _ _ _ q1 q2,?_⟩;intro p q hp hpq hq;rcases Nat.lt_or_ge q mid with c | c;{rw [hP2.2.1 p ay,hP2.2.1 q ay];exact hS1 p q hp hpq c};{rcases Nat.lt_or_ge p mid with c' | c';{have h1:∀ j,mid≤j→j<b→∀ i,a≤i→i<mid→lt d1[j]! d1[i]! = false:=fun j h3 h4=>(by rw [hP1.2.1 j ay];exact permIn_all d d1 a mid (fun x=>lt d[j]! x=false) ay hP1 (fun i h5 h6=>hc i j h5 h6 h3 h4));have h2:=permIn_all d1 d2 mid b (fun x=>lt x d1[p]! = false) (by rw [hP1.1];exact hb) hP2 (fun j h3 h4=>h1 j h3 h4 p hp c') q c hq;rw [hP2.2.1 p ay];exact h2};{exact hS2 p q c' hpq hq}}
def aB (lt:α→α→Bool) (s n:Nat) (d:Array α):Prop:=∀ q,SortedIn lt (q*s) (min (q*s+s) n) d
theorem acp {s n:Nat} {d:Array α} (h:aB lt s n d) (hn:n≤s):SortedIn lt 0 n d:=by have:=h 0;rw [Nat.zero_mul,Nat.zero_add,Nat.min_eq_right hn] at this;exact this
theorem Bh {q s hi:Nat} {d d':Array α} (h:aB lt s (q*s) d) (hhi:hi≤q*s+s) (hP:PermIn (q*s) hi d d') (hS1:SortedIn lt (q*s) hi d'):aB lt s hi d':=by intro r;rcases Nat.lt_trichotomy r q with c | c | c;{have:=Nat.mul_le_mul_right s (show r+1≤q from c);rw [Nat.add_mul,Nat.one_mul] at this;have h1:=h r;rw [Nat.min_eq_left ay] at h1;intro i j hi' hij hj;rw [hP.2.1 i ay,hP.2.1 j ay];exact h1 i j hi' hij ay};{subst c;rw [Nat.min_eq_right hhi];exact hS1};{have:=Nat.mul_le_mul_right s (show q+1≤r from c);rw [Nat.add_mul,Nat.one_mul] at this;intro i j hi' hij hj;omega}
structure Half (lt:α→α→Bool) (s q n:Nat) (d:Array α):Prop where
 done:aB lt (2*s) (q*(2*s)) d
 rest:∀ r,2*q≤r→SortedIn lt (r*s) (min (r*s+s) n) d
theorem half_start {s n:Nat} {d:Array α} (h:aB lt s n d):Half lt s 0 n d:=
 ⟨fun r i j hi hij hj=>ay,fun r _=>h r⟩
theorem acr {s q n:Nat} {d:Array α} (h:Half lt s q n d) (hb:q*(2*s)+2*s≤n):SortedIn lt (q*(2*s)) (q*(2*s)+s) d∧SortedIn lt (q*(2*s)+s) (q*(2*s)+2*s) d:=by
 have e1:2*q*s=q*(2*s):=by rw [Nat.mul_comm 2 q,Nat.mul_assoc]
 have e2:(2*q+1)*s=q*(2*s)+s:=by rw [Nat.add_mul,e1,Nat.one_mul]
 have h1:=h.rest (2*q) aG;have h2:=h.rest (2*q+1) ay;rw [e1,Nat.min_eq_left ay] at h1;rw [e2,Nat.min_eq_left ay] at h2;exact ⟨h1,by rw [show q*(2*s)+2*s=q*(2*s)+s+s by omega];exact h2⟩
theorem acs {s q n:Nat} {d d':Array α} (h:Half lt s q n d) (hP:PermIn (q*(2*s)) (q*(2*s)+2*s) d d') (hS1:SortedIn lt (q*(2*s)) (q*(2*s)+2*s) d'):Half lt s (q+1) n d':=by refine ⟨?_,fun r hr=>?_⟩;{have:=Bh h.done aG hP hS1;rw [Nat.add_mul,Nat.one_mul];exact this};{have e1:(2*(q+1))*s=q*(2*s)+2*s:=(by rw [Nat.mul_comm 2 (q+1),Nat.mul_assoc,Nat.add_mul,Nat.one_mul]);have:=Nat.mul_le_mul_right s hr;exact Bg (h.rest r ay) hP (Or.inr ay)}
theorem acu {s q n:Nat} {d:Array α} (h:Half lt s q n d) (h1:q*(2*s)+s<n) (h2:n≤q*(2*s)+2*s):SortedIn lt (q*(2*s)) (q*(2*s)+s) d∧SortedIn lt (q*(2*s)+s) n d:=by
 have e1:2*q*s=q*(2*s):=by rw [Nat.mul_comm 2 q,Nat.mul_assoc]
 have e2:(2*q+1)*s=q*(2*s)+s:=by rw [Nat.add_mul,e1,Nat.one_mul]
 have k1:=h.rest (2*q) aG;have k2:=h.rest (2*q+1) ay;rw [e1,Nat.min_eq_left ay] at k1;rw [e2,Nat.min_eq_right ay] at k2;exact ⟨k1,k2⟩
theorem acv {s q n:Nat} {d:Array α} (h:Half lt s q n d) (h1:n≤q*(2*s)+s) (h0:q*(2*s)≤n):aB lt (2*s) n d:=by
 have e1:2*q*s=q*(2*s):=by rw [Nat.mul_comm 2 q,Nat.mul_assoc]
 have k1:=h.rest (2*q) aG;rw [e1,Nat.min_eq_right ay] at k1;exact Bh h.done ay (permIn_refl d _ _) k1
theorem acw {s q n:Nat} {d d':Array α} (h:Half lt s q n d) (h2:n≤q*(2*s)+2*s) (hP:PermIn (q*(2*s)) n d d') (hS1:SortedIn lt (q*(2*s)) n d'):aB lt (2*s) n d':=
 Bh h.done h2 hP hS1
end Go.Proofs.YtockbaekcbeenaaGreatDoor.St
namespace Go.Proofs.YtockbaekcbeenaaGreatDoor
open Go.Proofs.Tryz
open Go.ChangeShapes Go.WideShapes Go.ChangeAt Go.RowKit Go.Sort Go.Lib
structure vY (P:Program) (k:Nat):Prop where
 mixed:P.follows .mixedOrders=true
 fw:P.funcs[241]?=some Tryz.f241
 fr:P.funcs[206]?=some Tryz.f206
 fm:P.funcs[166]?=some Tryz.f166
 fs:P.funcs[130]?=some Tryz.f130
 t0:P.underlying 0=some (TypeDesc.tuple #[])
 a0:∀ w,(isAgg 0).run P w=.ok false w
 z0:∀ w,(Go.sizeOf 0).run P w=.ok 1 w
 v0:∀ w,(zeroValue 0).run P w=.ok (Value.tuple #[]) w
 t3:P.underlying 3=some (TypeDesc.int IntKind.i64)
 a3:∀ w,(isAgg 3).run P w=.ok false w
 z3:∀ w,(Go.sizeOf 3).run P w=.ok 1 w
 v3:∀ w,(zeroValue 3).run P w=.ok (Value.int IntKind.i64 0) w
 t4:P.underlying 4=some TypeDesc.bool
 a4:∀ w,(isAgg 4).run P w=.ok false w
 z4:∀ w,(Go.sizeOf 4).run P w=.ok 1 w
 v4:∀ w,(zeroValue 4).run P w=.ok (Value.bool false) w
 tu:P.underlying 181=some (TypeDesc.int IntKind.u64)
 au:∀ w,(isAgg 181).run P w=.ok false w
 zu:∀ w,(Go.sizeOf 181).run P w=.ok 1 w
 vu:∀ w,(zeroValue 181).run P w=.ok (Value.int IntKind.u64 0) w
 tl:P.underlying 190=some (TypeDesc.slice 193)
 al:∀ w,(isAgg 190).run P w=.ok false w
 zl:∀ w,(Go.sizeOf 190).run P w=.ok 1 w
 vl:∀ w,(zeroValue 190).run P w=.ok (Value.slice none 0 0) w
 tf:P.underlying 196=some (TypeDesc.func #[193,193] #[3] false)
 af:∀ w,(isAgg 196).run P w=.ok false w
 zf:∀ w,(Go.sizeOf 196).run P w=.ok 1 w
 vf:∀ w,(zeroValue 196).run P w=.ok Value.nilFunc w
 aE:∀ w,(isAgg 193).run P w=.ok true w
 zE:∀ w,(Go.sizeOf 193).run P w=.ok k w
theorem acy:vY prog 10 where
 mixed:=Tryz.insShown.mixed
 fw:=func241
 fr:=func206
 fm:=func166
 fs:=func130
 t0:=underlying0
 a0:=isAgg0
 z0:=sizeOf0
 v0:=zeroValue0
 t3:=underlying3
 a3:=isAgg3
 z3:=sizeOf3
 v3:=zeroValue3
 t4:=underlying4
 a4:=isAgg4
 z4:=sizeOf4
 v4:=zeroValue4
 tu:=underlying181
 au:=isAgg181
 zu:=sizeOf181
 vu:=zeroValue181
 tl:=underlying190
 al:=isAgg190
 zl:=sizeOf190
 vl:=zeroValue190
 tf:=underlying196
 af:=isAgg196
 zf:=sizeOf196
 vf:=zeroValue196
 aE:=isAgg193
 zE:=sizeOf193
section
variable {α:Type} [Inhabited α] {P:Program} {k:Nat} {enc:α→List Value} {w:World} {blk off:Nat}
structure Xch (P:Program) (k:Nat) (enc:α→List Value) (w:World) (blk off m:Nat) (dk:Array α) (os:Array Obj) (i j:Nat) (ci cj:List Value) (W:World):Prop where
 li:Sem.run P (loadCellsFrom ⟨blk,off+i*k,none⟩ 0 k #[]) W.drew=.ok ci.toArray W.drew
 lj:Sem.run P (loadCellsFrom ⟨blk,off+j*k,none⟩ 0 k #[]) W.drew=.ok cj.toArray W.drew
 s1:Sem.run P (storeCells ⟨blk,off+i*k,none⟩ cj 0) W.drew=.ok () (W.drew.setCells blk (off+i*k) cj)
 s2:Sem.run P (storeCells ⟨blk,off+j*k,none⟩ ci 0) (W.drew.setCells blk (off+i*k) cj)=.ok () ((W.drew.setCells blk (off+i*k) cj).setCells blk (off+j*k) ci)
 zi:ci.length=k
 zj:cj.length=k
 res:(W.drew.setCells blk (off+i*k) cj).setCells blk (off+j*k) ci=sortWorldK enc k w blk off (m+1) (swp dk i j) os
theorem Fz (hk:∀ x,(enc x).length=k) (h1:∀ x,∀ v∈enc x,v.oneCell'=true) {d:Array α} (hH:HoldsK enc k w blk off d) (hblk:blk<w.heap.size) (m:Nat) (dk:Array α) (os:Array Obj) (hs:dk.size=d.size) (i j:Nat) (hi:i<d.size) (hj:j<d.size) :
  ∃ ci cj,Xch P k enc w blk off m dk os i j ci cj (sortWorldK enc k w blk off m dk os):=by
 have hHd:HoldsK enc k (sortWorldK enc k w blk off m dk os).drew blk off dk:=holdsK_sortWorldK_c enc k w blk off d dk m os hH hblk hs;have bnd:∀ x,x<dk.size→x*k+k≤dk.size*k:=fun x hx=>by have:=Nat.mul_le_mul_right k (show x+1≤dk.size from hx);rwa [Nat.add_mul,Nat.one_mul] at this
 refine ⟨enc dk[i]!,enc dk[j]!,?_,?_,?_,?_,hk _,hk _,?_⟩;{exact run_loadCellsFrom_list P _ _ _ k (hk _) (HoldsK.cells hHd hk ay)};{exact run_loadCellsFrom_list P _ _ _ k (hk _) (HoldsK.cells hHd hk ay)};{exact stores_of_holds P hHd (i*k) _ (by rw [hk,size_flatK];exact bnd i ay) (h1 _)};{exact stores_of_holds P (holds_setCells_c hHd (i*k) _ (by rw [hk,size_flatK];exact bnd i ay)) (j*k) _ (by rw [hk,size_setMany,size_flatK];exact bnd j ay) (h1 _)};{exact sortWorldK_swp_c enc k w blk off hk m dk os hblk i j ay ay}
theorem acz (L:vY P k) (hk:∀ x,(enc x).length=k) (h1:∀ x,∀ v∈enc x,v.oneCell'=true) (d:Array α) (hH:HoldsK enc k w blk off d) (hblk:blk<w.heap.size) (hsz:d.size<4611686018427387904) (a b n m cap:Nat) (dk:Array α) (os:Array Obj) (hs:dk.size=d.size) (hab:a+n≤b) (hbn:b+n≤d.size) (f:Value) :
  Calls P 241 #[.slice (some ⟨blk,off,none⟩) d.size cap,.int .i64 a,.int .i64 b,.int .i64 n,f] (sortWorldK enc k w blk off m dk os) fun e w'=>
   e=.returned (.tuple #[])∧∃ m',w'=sortWorldK enc k w blk off m' (St.nL a b n dk) os:=by
 have XC:=aj (fun m dk hs i j hi hj=>Fz (P:=P) hk h1 hH hblk m dk os hs i j hi hj);have HS:=aj hs;clear hk h1 hH hs;have mixed:=L.mixed;have t0:=L.t0;have a0:=L.a0;have z0:=L.z0;have v0:=L.v0;have t3:=L.t3;have a3:=L.a3;have z3:=L.z3;have v3:=L.v3;have t4:=L.t4;have a4:=L.a4;have z4:=L.z4;have v4:=L.v4;have tu:=L.tu;have au:=L.au;have zu:=L.zu;have vu:=L.vu;have tl:=L.tl;have al:=L.al;have zl:=L.zl;have vl:=L.vl;have tf:=L.tf;have af:=L.af;have zf:=L.zf;have vf:=L.vf;have aE:=L.aE;have zE:=L.zE;have ul:=run_underlying L.tl;have FN:=L.fw;clear L;obtain ⟨W0,hW0⟩:=aC (sortWorldK enc k w blk off m dk os);rw [←hW0];have HW0:=aj hW0;clear hW0;go_enter FN,ntmps241;go_wp2;go_loopg [10] n (fun g vi wr=>∃ (i m':Nat),vi=.int .i64 i∧i≤n∧n-i≤g∧Hid (wr=sortWorldK enc k w blk off m' (St.nL a b i dk) os))
 case atStart=>exact ⟨0,m,aN,ay,ay,HW0.out⟩
 case round=>
  obtain ⟨i,m',rfl,hin,hg,HW⟩:=hrel;by_cases hlt:i<n
  · have hltz:(i:Int)<(n:Int):=ay;have w1:IntKind.i64.wrap ((a:Int)+i)=(a:Int)+i:=(by rw [IntKind.wrap_i64];omega);have w2:IntKind.i64.wrap ((b:Int)+i)=(b:Int)+i:=(by rw [IntKind.wrap_i64];omega);obtain ⟨p,hp⟩:=aC (a+i);obtain ⟨q,hq⟩:=aC (b+i);have ep:(a:Int)+i=(p:Int):=ay;have Bf:(b:Int)+i=(q:Int):=ay;rw [ep] at w1;rw [Bf] at w2;have bp:(p:Int)<(d.size:Int):=ay;have bq:(q:Int)<(d.size:Int):=ay;obtain ⟨ci,cj,X⟩:=XC.out m' (St.nL a b i dk) (by rw [St.vX];exact HS.out) p q ay ay;rw [←HW.out] at X;obtain ⟨li,lj,s1,s2,zi,zj,res⟩:=X;have RES:=aj res;have HPQ:=aj (show p=a+i∧q=b+i from ⟨hp,hq⟩);clear res hp hq;(go_wp2_with fail);go_big_region_o
    (all_goals go_wp2);go_roundg (n-(i+1))
    (case measure=>omega);case rel=>exact ⟨i+1,m'+1,aN,ay,ay,by show _=_;rw [RES.out,HPQ.out.1,HPQ.out.2];rfl⟩
  · have hltz:¬ (i:Int)<(n:Int):=ay;have hi:i=n:=ay;subst hi;go_wp2;go_end0
    exact ⟨rfl,m',HW.out⟩
end
open Go.ChangeShapes Go.WideShapes Go.ChangeAt Go.RowKit Go.Sort Go.Lib
section
variable {α:Type} [Inhabited α] {P:Program} {k:Nat} {enc:α→List Value} {w:World} {blk off:Nat}
theorem acA (L:vY P k) (hk:∀ x,(enc x).length=k) (h1:∀ x,∀ v∈enc x,v.oneCell'=true) (d:Array α) (hH:HoldsK enc k w blk off d) (hblk:blk<w.heap.size) (hsz:d.size<4611686018427387904) (a mid b m cap:Nat) (dk:Array α) (os:Array Obj) (hs:dk.size=d.size) (J5:a<mid) (hmb:mid<b) (hb:b≤d.size) (f:Value) :
  Calls P 206 #[.slice (some ⟨blk,off,none⟩) d.size cap,.int .i64 a,.int .i64 mid,.int .i64 b,f] (sortWorldK enc k w blk off m dk os) fun e w'=>
   e=.returned (.tuple #[])∧∃ m' d',w'=sortWorldK enc k w blk off m' d' os∧d'.size=d.size∧PermIn a b dk d'∧St.iG a mid b dk d':=by
 have SW:=aj (fun (x y n m:Nat) (dk:Array α) hs h2 h3=>acz L hk h1 d hH hblk hsz x y n m cap dk os hs h2 h3 f);have HS:=aj hs;clear hk h1 hH hs;obtain ⟨W0,hW0⟩:=aC (sortWorldK enc k w blk off m dk os);rw [←hW0];have HW0:=aj hW0;clear hW0;have mixed:=L.mixed;have t0:=L.t0;have a0:=L.a0;have z0:=L.z0;have v0:=L.v0;have t3:=L.t3;have a3:=L.a3;have z3:=L.z3;have v3:=L.v3;have t4:=L.t4;have a4:=L.a4;have z4:=L.z4;have v4:=L.v4;have tu:=L.tu;have au:=L.au;have zu:=L.zu;have vu:=L.vu;have tl:=L.tl;have al:=L.al;have zl:=L.zl;have vl:=L.vl;have tf:=L.tf;have af:=L.af;have zf:=L.zf;have vf:=L.vf;have aE:=L.aE;have zE:=L.zE;have ul:=run_underlying L.tl;have FN:=L.fr;have ew:∀ args w,(callFunc 241 args).run P w=.ok (.enter 241 args) w:=enters_of L.fw aF rfl;clear L;obtain ⟨i0,hi0⟩:=aC (mid-a);obtain ⟨j0,hj0⟩:=aC (b-mid);have e1:(mid:Int)-(a:Int)=(i0:Int):=ay;have e2:(b:Int)-(mid:Int)=(j0:Int):=ay;have w1:IntKind.i64.wrap (i0:Int)=(i0:Int):=by rw [IntKind.wrap_i64];omega
 have w2:IntKind.i64.wrap (j0:Int)=(j0:Int):=by rw [IntKind.wrap_i64];omega
 have HI:=aj (show a=mid-i0∧b=mid+j0∧i0≤mid from ⟨ay,ay,ay⟩);have q1:0<i0:=ay;have q2:0<j0:=ay;clear hi0 hj0;go_enter FN,ntmps206;go_wp2;go_loopg [10,11] (i0+j0) (fun g vi vj wr=>∃ (i j m':Nat) (d':Array α),vi=.int .i64 i∧vj=.int .i64 j∧0<i∧0<j∧i+j≤g∧i≤mid∧a≤mid-i∧mid+j≤b∧Hid (wr=sortWorldK enc k w blk off m' d' os)∧Hid (d'.size=d.size)∧Hid (PermIn a b dk d')∧Hid (∀ d2,St.iG (mid-i) mid (mid+j) d' d2→St.iG a mid b dk d2))
 case atStart=>exact ⟨i0,j0,m,dk,rfl,rfl,q1,q2,Nat.le_refl _,HI.out.2.2,ay,ay,HW0.out,HS.out,permIn_refl _ _ _,fun d2 h=>by rw [HI.out.1,HI.out.2.1];exact h⟩
 case round=>
  obtain ⟨i,j,m',d',rfl,rfl,p1,p2,hg,him,hai,hjb,HW,HZ,HP,HR⟩:=hrel;clear w1 w2 e1 e2;have EW:=aj HW.out;have e5:(mid:Int)-(i:Int)=((mid-i:Nat):Int):=ay;obtain ⟨x,hx⟩:=aC (mid-i);rw [←hx] at e5;have w5:IntKind.i64.wrap (x:Int)=(x:Int):=by rw [IntKind.wrap_i64];omega
  rcases Nat.lt_trichotomy i j with c | c | c
  · have c1:((i:Int)==(j:Int))=false:=beq_eq_false_iff_ne.2 ay;have c2:¬ (j:Int)<(i:Int):=ay;obtain ⟨y,hy⟩:=aC (mid+j-i);have e6:(mid:Int)+(j:Int)-(i:Int)=(y:Int):=ay;have w7:IntKind.i64.wrap ((mid:Int)+(j:Int))=(mid:Int)+(j:Int):=(by rw [IntKind.wrap_i64];omega);have w6:IntKind.i64.wrap (y:Int)=(y:Int):=(by rw [IntKind.wrap_i64];omega);have e8:(j:Int)-(i:Int)=((j-i:Nat):Int):=ay;obtain ⟨z,hz⟩:=aC (j-i);rw [←hz] at e8;have w8:IntKind.i64.wrap (z:Int)=(z:Int):=(by rw [IntKind.wrap_i64];omega);have uo:=aj (SW.out x y i m' d' HZ.out ay ay);have uq:=aj (show x=mid-i∧y=mid+j-i∧z=j-i from ⟨hx,hy,hz⟩);have HN:=aj (show mid+j≤d'.size by rw [HZ.out];omega);rw [←HW.out] at uo;clear hx hy hz;(go_wp2_with fail);go_at_fn 241
    refine uo.out.mono ?_;rintro e w3 ⟨rfl,m3,hw3⟩;have HW3:=aj hw3;clear hw3;go_wp2;go_roundg (i+z)
    (case measure=>have:=uq.out;omega);case rel=>
     obtain ⟨rfl,rfl,rfl⟩:=uq.out;exact ⟨i,j-i,m3,_,rfl,rfl,p1,ay,ay,him,hai,ay,HW3.out,by show _=_;rw [St.vX];exact HZ.out,
      permIn_trans _ _ _ _ _ HP.out (St.Fy a b _ _ i d' hai ay ay (by have:=HP.out.1;have:=HZ.out;omega)),fun d2 h=>HR.out d2 (St.acg him HN.out c h)⟩
  · subst c;have uo:=aj (SW.out x mid i m' d' HZ.out ay ay);have uq:=aj (show x=mid-i from hx);have HN:=aj (show mid+i≤d'.size by rw [HZ.out];omega);rw [←HW.out] at uo;clear hx;(go_wp2_with fail);go_at_fn 241
    refine uo.out.mono ?_;rintro e w3 ⟨rfl,m3,hw3⟩;have HW3:=aj hw3;clear hw3;go_wp2;go_end0
    refine ⟨rfl,m3,_,HW3.out,by rw [St.vX];exact HZ.out,?_,?_⟩;{rw [uq.out];exact permIn_trans _ _ _ _ _ HP.out (St.Fy a b _ _ i d' hai ay ay (by have:=HP.out.1;have:=HZ.out;omega))};{rw [uq.out];exact HR.out _ (St.ace him HN.out)}
  · have c1:((i:Int)==(j:Int))=false:=beq_eq_false_iff_ne.2 ay;have c2:(j:Int)<(i:Int):=ay;have e8:(i:Int)-(j:Int)=((i-j:Nat):Int):=ay;obtain ⟨z,hz⟩:=aC (i-j);rw [←hz] at e8;have w8:IntKind.i64.wrap (z:Int)=(z:Int):=(by rw [IntKind.wrap_i64];omega);have uo:=aj (SW.out x mid j m' d' HZ.out ay ay);have uq:=aj (show x=mid-i∧z=i-j from ⟨hx,hz⟩);have HN:=aj (show mid+j≤d'.size by rw [HZ.out];omega);rw [←HW.out] at uo;clear hx hz;(go_wp2_with fail);go_at_fn 241
    refine uo.out.mono ?_;rintro e w3 ⟨rfl,m3,hw3⟩;have HW3:=aj hw3;clear hw3;go_wp2;go_roundg (z+j)
    (case measure=>have:=uq.out;omega);case rel=>
     obtain ⟨rfl,rfl⟩:=uq.out;exact ⟨i-j,j,m3,_,rfl,rfl,ay,p2,ay,ay,ay,hjb,HW3.out,by show _=_;rw [St.vX];exact HZ.out,
      permIn_trans _ _ _ _ _ HP.out (St.Fy a b _ _ j d' hai ay ay (by have:=HP.out.1;have:=HZ.out;omega)),fun d2 h=>HR.out d2 (St.acf him HN.out c h)⟩
end
open Go.ChangeShapes Go.WideShapes Go.ChangeAt Go.RowKit Go.Sort Go.Lib
section
variable {α:Type} [Inhabited α] {P:Program} {k:Nat} {enc:α→List Value} {cf:α→α→Int} {w:World} {blk off:Nat}
theorem J6 {α:Type} {cf:α→α→Int} {x y:α} {r:Int} (h:r=cf x y) (hr:r<0):ltOf cf x y=true:=by unfold ltOf;rw [←h];exact decide_eq_true hr
theorem J7 {α:Type} {cf:α→α→Int} {x y:α} {r:Int} (h:r=cf x y) (hr:0≤r):ltOf cf x y=false:=by unfold ltOf;rw [←h];exact decide_eq_false ay
structure acB (P:Program) (k g:Nat) (cb:Array Value) (r:Int) (blk off i j:Nat) (ci cj:List Value) (W:World):Prop where
 li:∀ n os,Sem.run P (loadCellsFrom ⟨blk,off+i*k,none⟩ 0 k #[]) (grow (W.drewN n) os)=.ok ci.toArray (grow (W.drewN n) os)
 lj:∀ n os,Sem.run P (loadCellsFrom ⟨blk,off+j*k,none⟩ 0 k #[]) (grow (W.drewN n) os)=.ok cj.toArray (grow (W.drewN n) os)
 zi:ci.length=k
 zj:cj.length=k
 call:∀ n os,Calls P g (#[.agg ci.toArray,.agg cj.toArray]++cb) (grow (W.drewN n) os) fun e w'=>e=.returned (.int .i64 r)∧∃ q os',w'=grow ((grow (W.drewN n) os).drewN q) os'
theorem J8 (hk:∀ x,(enc x).length=k) {d:Array α} {g:Nat} {cb:Array Value} (hcmp:CmpLays P g cb enc k cf blk off d.size w) (hH:HoldsK enc k w blk off d) (hblk:blk<w.heap.size) (m:Nat) (dk:Array α) (os:Array Obj) (hs:dk.size=d.size) (i j:Nat) (hi:i<d.size) (hj:j<d.size) :
  ∃ ci cj,acB P k g cb (cf dk[i]! dk[j]!) blk off i j ci cj (sortWorldK enc k w blk off m dk os):=by
 have hcls:∀ n' os',grow ((sortWorldK enc k w blk off m dk os).drewN n') os'=sortWorldK enc k w blk off (m+n') dk (os++os'):=fun n' os'=>sortWorldK_grown_c enc k w blk off m n' dk os os';have hHc:∀ n' os',HoldsK enc k (grow ((sortWorldK enc k w blk off m dk os).drewN n') os') blk off dk:=fun n' os'=>by rw [hcls];exact holdsK_sortWorldK_c enc k w blk off d dk _ _ hH hblk hs
 refine ⟨enc dk[i]!,enc dk[j]!,fun n os'=>?_,fun n os'=>?_,hk _,hk _,fun n os'=>?_⟩;{exact run_loadCellsFrom_list P _ _ _ k (hk _) (HoldsK.cells (hHc n os') hk ay)};{exact run_loadCellsFrom_list P _ _ _ k (hk _) (HoldsK.cells (hHc n os') hk ay)};{rw [hcls];exact hcmp _ _ dk hs _ _}
theorem acC (L:vY P k) (hk:∀ x,(enc x).length=k) (h1:∀ x,∀ v∈enc x,v.oneCell'=true) (hS:SWO (ltOf cf)) (d:Array α) (g:Nat) (cb:Array Value) (eg:∀ args w,(callFunc g args).run P w=.ok (.enter g args) w) (hcmp:CmpLays P g cb enc k cf blk off d.size w) (hH:HoldsK enc k w blk off d) (hblk:blk<w.heap.size) (hsz:d.size<4611686018427387904) (a b m cap:Nat) (dk:Array α) (os:Array Obj) (hs:dk.size=d.size) (hmb:a+1<b) (hb:b≤d.size) (hs1:True) (hs2:SortedIn (ltOf cf) (a+1) b dk) :
  Calls P 166 #[.slice (some ⟨blk,off,none⟩) d.size cap,.int .i64 a,.int .i64 ((a+1:Nat):Int),.int .i64 b,.func (.func g) #[] cb] (sortWorldK enc k w blk off m dk os) fun e w'=>
   e=.returned (.tuple #[])∧∃ m' d',(∃ os',w'=sortWorldK enc k w blk off m' d' os')∧d'.size=d.size∧PermIn a b dk d'∧SortedIn (ltOf cf) a b d':=by
 have XC:=aj (fun m dk os hs i j hi hj=>Fz (P:=P) hk h1 hH hblk m dk os hs i j hi hj);have CX:=aj (fun m dk os hs i j hi hj=>J8 (P:=P) (cf:=cf) hk hcmp hH hblk m dk os hs i j hi hj);have HS:=aj hs;have H1:=aj hs1;have H2:=aj hs2;have SW:=aj hS;clear hcmp hk h1 hH hs hs1 hs2 hS;obtain ⟨W0,hW0⟩:=aC (sortWorldK enc k w blk off m dk os);rw [←hW0];have HW0:=aj hW0;clear hW0;have mixed:=L.mixed;have t0:=L.t0;have a0:=L.a0;have z0:=L.z0;have v0:=L.v0;have t3:=L.t3;have a3:=L.a3;have z3:=L.z3;have v3:=L.v3;have t4:=L.t4;have a4:=L.a4;have z4:=L.z4;have v4:=L.v4;have tu:=L.tu;have au:=L.au;have zu:=L.zu;have vu:=L.vu;have tl:=L.tl;have al:=L.al;have zl:=L.zl;have vl:=L.vl;have tf:=L.tf;have af:=L.af;have zf:=L.zf;have vf:=L.vf;have aE:=L.aE;have zE:=L.zE;have ul:=run_underlying L.tl;have FN:=L.fm;clear L;have wm:((a:Int)+1-(a:Int))=1:=ay;have ba:(a:Int)<(d.size:Int):=ay;go_enter FN,ntmps166;go_wp2;go_loopg [10,11] (b-(a+1)) (fun gg vi vj wr=>∃ (i j m':Nat) (os':Array Obj),vi=.int .i64 i∧vj=.int .i64 j∧a+1≤i∧i≤j∧j≤b∧j-i≤gg∧Hid (wr=sortWorldK enc k w blk off m' dk os')∧Hid (i=a+1∨ltOf cf dk[i-1]! dk[a]! = true)∧Hid (j=b∨ltOf cf dk[j]! dk[a]! = false))
 case atStart=>exact ⟨a+1,b,m,os,aN,rfl,Nat.le_refl _,ay,Nat.le_refl _,Nat.le_refl _,HW0.out,.inl rfl,.inl rfl⟩
 case round=>
  obtain ⟨i,j,m',os',rfl,rfl,hi1,hij,hjb,hg,HW,HL,HR⟩:=hrel;by_cases hlt:i<j
  · have hltz:(i:Int)<(j:Int):=ay;obtain ⟨h,hh⟩:=aC ((i+j) / 2);have hb1:i≤h:=ay;have hb2:h<j:=ay;have eh:((i:Int)+(j:Int)) / 2=(h:Int):=ay;have bh:(h:Int)<(d.size:Int):=ay;clear hh;obtain ⟨ci,cj,X⟩:=CX.out m' dk os' HS.out h a ay ay;rw [←HW.out] at X;obtain ⟨li,lj,zi,zj,call⟩:=X;obtain ⟨r,hr⟩:=aC (cf dk[h]! dk[a]!);rw [←hr] at call;have HRR:=aj hr;clear hr;by_cases hlv:r<0
    · have pR:=aj hlv;(go_wp2_with fail);go_quiet_grown (first | (go_at_fn g;refine Calls.grown_of (call _ _)))
      have HC:=aj (show grow (wr.drewN nq) osq=sortWorldK enc k w blk off (m'+nq) dk (os'++osq) by rw [HW.out];exact sortWorldK_grown_c enc k w blk off m' nq dk os' osq);clear li lj call;generalize grow (wr.drewN nq) osq=wq at HC ⊢;go_wp2;go_roundg (j-(h+1))
      (case measure=>omega);case rel=>exact ⟨h+1,j,m'+nq,_,aN,rfl,ay,ay,hjb,ay,HC.out,.inr (by rw [Nat.add_sub_cancel];exact J6 HRR.out pR.out),HR.out⟩
    · have pR:=aj (show 0≤r by omega);have hd1:decide (r<0)=false:=decide_eq_false hlv;have hd2:decide (0≤r)=true:=decide_eq_true ay;(go_wp2_with fail);go_quiet_grown (first | (go_at_fn g;refine Calls.grown_of (call _ _)))
      have HC:=aj (show grow (wr.drewN nq) osq=sortWorldK enc k w blk off (m'+nq) dk (os'++osq) by rw [HW.out];exact sortWorldK_grown_c enc k w blk off m' nq dk os' osq);clear li lj call;generalize grow (wr.drewN nq) osq=wq at HC ⊢;go_wp2;go_roundg (h-i)
      (case measure=>omega);case rel=>exact ⟨i,h,m'+nq,_,rfl,aN,ay,ay,ay,ay,HC.out,HL.out,.inr (J7 HRR.out pR.out)⟩
  · obtain rfl:i=j:=ay;obtain ⟨ip,rfl⟩:∃ ip,i=ip+1:=⟨i-1,ay⟩;have hz:¬ ((ip:Int)+1<(ip:Int)+1):=ay;have wip:IntKind.i64.wrap ((ip:Int)+1-1)=(ip:Int):=(by rw [IntKind.wrap_i64];omega);have eip:(ip:Int)+1-1=(ip:Int):=ay;have ahz:IntKind.i64.wrap (ip:Int)=(ip:Int):=(by rw [IntKind.wrap_i64];omega);go_wp2;go_loopg [13] (ip-a) (fun gg vk wr2=>∃ (x m2:Nat) (d':Array α),vk=.int .i64 x∧a≤x∧x≤ip∧ip-x≤gg∧Hid (wr2=sortWorldK enc k w blk off m2 d' os')∧Hid (d'.size=d.size)∧Hid (PermIn a b dk d')∧Hid (St.iG a (a+1) (x+1) dk d'))
    (case atStart=>exact ⟨a,m',dk,aN,Nat.le_refl _,ay,Nat.le_refl _,HW.out,HS.out,permIn_refl _ _ _,St.Rf _ _ _ ay⟩);case round=>
     obtain ⟨x,m2,d',rfl,hax,hxi,hg2,HW2,HZ,HP,dL⟩:=hrel;by_cases hx:x<ip
     · have hxz:(x:Int)<(ip:Int):=ay;obtain ⟨q,hq⟩:=aC (x+1);have Bf:(x:Int)+1=(q:Int):=ay;have wq0:IntKind.i64.wrap (q:Int)=(q:Int):=(by rw [IntKind.wrap_i64];omega);have bx:(x:Int)<(d.size:Int):=ay;have bq:(q:Int)<(d.size:Int):=ay;obtain ⟨ci,cj,X⟩:=XC.out m2 d' os' HZ.out x q ay ay;rw [←HW2.out] at X;obtain ⟨li,lj,s1,s2,zi,zj,res⟩:=X;have RES:=aj res;have HQ:=aj hq;clear res hq;(go_wp2_with fail);go_big_region_o
       (all_goals go_wp2);go_roundg (ip-q)
       (case measure=>have:=HQ.out;omega);case rel=>have hq:=HQ.out;subst hq;exact ⟨x+1,m2+1,_,aN,ay,ay,ay,RES.out,by show _=_;rw [size_swp];exact HZ.out,permIn_trans _ _ _ _ _ HP.out (swp_permIn _ a b x (x+1) ay ay ay ay (by have:=HZ.out;omega)),St.ach dL.out hax (by have:=HZ.out;omega)⟩
     {have hx':x=ip:=ay;subst hx';have hxz:¬ (x:Int)<(x:Int):=ay;go_wp2;(try simp only [Exit.inBlock,Exit.then]);refine bodyPost_ret (results_none rfl _ _ _) rfl ?_;exact ⟨rfl,m2,d',⟨os',HW2.out⟩,HZ.out,HP.out,St.acj SW.out H2.out ay ay (HL.out.elim .inl .inr) HR.out dL.out⟩}
end
open Go.ChangeShapes Go.WideShapes Go.ChangeAt Go.RowKit Go.Sort Go.Lib
section
variable {α:Type} [Inhabited α] {P:Program} {k:Nat} {enc:α→List Value} {cf:α→α→Int} {w:World} {blk off:Nat}
theorem acD (L:vY P k) (hk:∀ x,(enc x).length=k) (h1:∀ x,∀ v∈enc x,v.oneCell'=true) (hS:SWO (ltOf cf)) (d:Array α) (g:Nat) (cb:Array Value) (eg:∀ args w,(callFunc g args).run P w=.ok (.enter g args) w) (hcmp:CmpLays P g cb enc k cf blk off d.size w) (hH:HoldsK enc k w blk off d) (hblk:blk<w.heap.size) (hsz:d.size<4611686018427387904) (a mid m cap:Nat) (dk:Array α) (os:Array Obj) (hs:dk.size=d.size) (J5:a+1<mid) (hb:mid+1≤d.size) (hs1:SortedIn (ltOf cf) a mid dk) (hs2:True) :
  Calls P 166 #[.slice (some ⟨blk,off,none⟩) d.size cap,.int .i64 a,.int .i64 mid,.int .i64 ((mid+1:Nat):Int),.func (.func g) #[] cb] (sortWorldK enc k w blk off m dk os) fun e w'=>
   e=.returned (.tuple #[])∧∃ m' d',(∃ os',w'=sortWorldK enc k w blk off m' d' os')∧d'.size=d.size∧PermIn a (mid+1) dk d'∧SortedIn (ltOf cf) a (mid+1) d':=by
 have XC:=aj (fun m dk os hs i j hi hj=>Fz (P:=P) hk h1 hH hblk m dk os hs i j hi hj);have CX:=aj (fun m dk os hs i j hi hj=>J8 (P:=P) (cf:=cf) hk hcmp hH hblk m dk os hs i j hi hj);have HS:=aj hs;have H1:=aj hs1;have H2:=aj hs2;have SW:=aj hS;clear hcmp hk h1 hH hs hs1 hs2 hS;obtain ⟨W0,hW0⟩:=aC (sortWorldK enc k w blk off m dk os);rw [←hW0];have HW0:=aj hW0;clear hW0;have mixed:=L.mixed;have t0:=L.t0;have a0:=L.a0;have z0:=L.z0;have v0:=L.v0;have t3:=L.t3;have a3:=L.a3;have z3:=L.z3;have v3:=L.v3;have t4:=L.t4;have a4:=L.a4;have z4:=L.z4;have v4:=L.v4;have tu:=L.tu;have au:=L.au;have zu:=L.zu;have vu:=L.vu;have tl:=L.tl;have al:=L.al;have zl:=L.zl;have vl:=L.vl;have tf:=L.tf;have af:=L.af;have zf:=L.zf;have vf:=L.vf;have aE:=L.aE;have zE:=L.zE;have ul:=run_underlying L.tl;have FN:=L.fm;clear L;have wn:(((mid:Int)-(a:Int))==1)=false:=beq_eq_false_iff_ne.2 ay;obtain ⟨mm,hmm⟩:=aC (mid-a);have emm:(mid:Int)-(a:Int)=(mm:Int):=ay;have wmm:IntKind.i64.wrap (mm:Int)=(mm:Int):=by rw [IntKind.wrap_i64];omega
 have nmm:((mm:Int)==1)=false:=beq_eq_false_iff_ne.2 ay;clear wn hmm;have wm:((mid:Int)+1-(mid:Int))=1:=ay;have ba:(mid:Int)<(d.size:Int):=ay;go_enter FN,ntmps166;go_wp2;go_loopg [14,15] (mid-a) (fun gg vi vj wr=>∃ (i j m':Nat) (os':Array Obj),vi=.int .i64 i∧vj=.int .i64 j∧a≤i∧i≤j∧j≤mid∧j-i≤gg∧Hid (wr=sortWorldK enc k w blk off m' dk os')∧Hid (i=a∨ltOf cf dk[mid]! dk[i-1]! = false)∧Hid (j=mid∨ltOf cf dk[mid]! dk[j]! = true))
 case atStart=>exact ⟨a,mid,m,os,rfl,rfl,Nat.le_refl _,ay,Nat.le_refl _,Nat.le_refl _,HW0.out,.inl rfl,.inl rfl⟩
 case round=>
  obtain ⟨i,j,m',os',rfl,rfl,hi1,hij,hjb,hg,HW,HL,HR⟩:=hrel;by_cases hlt:i<j
  · have hltz:(i:Int)<(j:Int):=ay;obtain ⟨h,hh⟩:=aC ((i+j) / 2);have hb1:i≤h:=ay;have hb2:h<j:=ay;have eh:((i:Int)+(j:Int)) / 2=(h:Int):=ay;have bh:(h:Int)<(d.size:Int):=ay;clear hh;obtain ⟨ci,cj,X⟩:=CX.out m' dk os' HS.out mid h ay ay;rw [←HW.out] at X;obtain ⟨li,lj,zi,zj,call⟩:=X;obtain ⟨r,hr⟩:=aC (cf dk[mid]! dk[h]!);rw [←hr] at call;have HRR:=aj hr;clear hr;by_cases hlv:r<0
    · have pR:=aj hlv;(go_wp2_with fail);go_quiet_grown (first | (go_at_fn g;refine Calls.grown_of (call _ _)))
      have HC:=aj (show grow (wr.drewN nq) osq=sortWorldK enc k w blk off (m'+nq) dk (os'++osq) by rw [HW.out];exact sortWorldK_grown_c enc k w blk off m' nq dk os' osq);clear li lj call;generalize grow (wr.drewN nq) osq=wq at HC ⊢;go_wp2;go_roundg (h-i)
      (case measure=>omega);case rel=>exact ⟨i,h,m'+nq,_,rfl,aN,ay,ay,ay,ay,HC.out,HL.out,.inr (J6 HRR.out pR.out)⟩
    · have pR:=aj (show 0≤r by omega);have hd1:decide (r<0)=false:=decide_eq_false hlv;have hd2:decide (0≤r)=true:=decide_eq_true ay;(go_wp2_with fail);go_quiet_grown (first | (go_at_fn g;refine Calls.grown_of (call _ _)))
      have HC:=aj (show grow (wr.drewN nq) osq=sortWorldK enc k w blk off (m'+nq) dk (os'++osq) by rw [HW.out];exact sortWorldK_grown_c enc k w blk off m' nq dk os' osq);clear li lj call;generalize grow (wr.drewN nq) osq=wq at HC ⊢;go_wp2;go_roundg (j-(h+1))
      (case measure=>omega);case rel=>exact ⟨h+1,j,m'+nq,_,aN,rfl,ay,ay,hjb,ay,HC.out,.inr (by rw [Nat.add_sub_cancel];exact J7 HRR.out pR.out),HR.out⟩
  · obtain rfl:i=j:=ay;have hz:¬ ((i:Int)<(i:Int)):=ay;go_wp2;go_loopg [17] (mid-i) (fun gg vk wr2=>∃ (x m2:Nat) (d':Array α),vk=.int .i64 x∧i≤x∧x≤mid∧x-i≤gg∧Hid (wr2=sortWorldK enc k w blk off m2 d' os')∧Hid (d'.size=d.size)∧Hid (PermIn a (mid+1) dk d')∧Hid (St.iG x mid (mid+1) dk d'))
    case atStart=>exact ⟨mid,m',dk,aN,ay,Nat.le_refl _,Nat.le_refl _,HW.out,HS.out,permIn_refl _ _ _,fun y=>by
     repeat' split
     all_goals first | (exfalso;omega) | (congr 1;omega) | rfl⟩
    case round=>
     obtain ⟨x,m2,d',rfl,hix,hxm,hg2,HW2,HZ,HP,dL⟩:=hrel;by_cases hx:i<x
     · have hxz:(i:Int)<(x:Int):=ay;obtain ⟨y,rfl⟩:∃ y,x=y+1:=⟨x-1,ay⟩;obtain ⟨q,hq⟩:=aC (y+1);have Bf:(y:Int)+1=(q:Int):=ay;have eq1:(q:Int)-1=(y:Int):=ay;have wy0:IntKind.i64.wrap (y:Int)=(y:Int):=(by rw [IntKind.wrap_i64];omega);have wq0:IntKind.i64.wrap (q:Int)=(q:Int):=(by rw [IntKind.wrap_i64];omega);have bx:(y:Int)<(d.size:Int):=ay;have bq:(q:Int)<(d.size:Int):=ay;obtain ⟨ci,cj,X⟩:=XC.out m2 d' os' HZ.out q y ay ay;rw [←HW2.out] at X;obtain ⟨li,lj,s1,s2,zi,zj,res⟩:=X;have RES:=aj res;have HQ:=aj hq;have hxq:(i:Int)<(q:Int):=ay;clear res hq;(go_wp2_with fail);go_big_region_o
       (all_goals go_wp2);go_roundg (y-i)
       (case measure=>have:=HQ.out;omega);case rel=>have hq:=HQ.out;subst hq;exact ⟨y,m2+1,_,aN,ay,ay,ay,RES.out,by show _=_;rw [size_swp];exact HZ.out,permIn_trans _ _ _ _ _ HP.out (swp_permIn _ a (mid+1) (y+1) y ay ay ay ay (by have:=HZ.out;omega)),St.aci dL.out hxm (by have:=HZ.out;omega)⟩
     {have hx':i=x:=ay;subst hx';have hxz:¬ (i:Int)<(i:Int):=ay;go_wp2;(try simp only [Exit.inBlock,Exit.then]);refine bodyPost_ret (results_none rfl _ _ _) rfl ?_;exact ⟨rfl,m2,d',⟨os',HW2.out⟩,HZ.out,HP.out,St.acn SW.out H1.out ay ay HL.out HR.out dL.out⟩}
end
open Go.ChangeShapes Go.WideShapes Go.ChangeAt Go.RowKit Go.Sort Go.Lib
section
variable {α:Type} [Inhabited α] {P:Program} {k:Nat} {enc:α→List Value} {cf:α→α→Int} {w:World} {blk off:Nat}
theorem acE (L:vY P k) (hk:∀ x,(enc x).length=k) (h1:∀ x,∀ v∈enc x,v.oneCell'=true) (hS:SWO (ltOf cf)) (d:Array α) (g:Nat) (cb:Array Value) (eg:∀ args w,(callFunc g args).run P w=.ok (.enter g args) w) (hcmp:CmpLays P g cb enc k cf blk off d.size w) (hH:HoldsK enc k w blk off d) (hblk:blk<w.heap.size) (hsz:d.size<4611686018427387904) (a mid b m cap:Nat) (dk:Array α) (os:Array Obj) (hs:dk.size=d.size) (J5:a+1<mid) (hmb:mid+1<b) (hb:b≤d.size) (hs1:SortedIn (ltOf cf) a mid dk) (hs2:SortedIn (ltOf cf) mid b dk)
  (IH:∀ (x y z m:Nat) (dk:Array α) (os:Array Obj),z-x<b-a→dk.size=d.size→x<y→y<z→z≤d.size→SortedIn (ltOf cf) x y dk→SortedIn (ltOf cf) y z dk →
    Calls P 166 #[.slice (some ⟨blk,off,none⟩) d.size cap,.int .i64 x,.int .i64 y,.int .i64 z,.func (.func g) #[] cb] (sortWorldK enc k w blk off m dk os) fun e w'=>
     e=.returned (.tuple #[])∧∃ m' d',(∃ os',w'=sortWorldK enc k w blk off m' d' os')∧d'.size=d.size∧PermIn x z dk d'∧SortedIn (ltOf cf) x z d') :
  Calls P 166 #[.slice (some ⟨blk,off,none⟩) d.size cap,.int .i64 a,.int .i64 mid,.int .i64 b,.func (.func g) #[] cb] (sortWorldK enc k w blk off m dk os) fun e w'=>
   e=.returned (.tuple #[])∧∃ m' d',(∃ os',w'=sortWorldK enc k w blk off m' d' os')∧d'.size=d.size∧PermIn a b dk d'∧SortedIn (ltOf cf) a b d':=by
 have RT:=aj (fun (x y z m:Nat) (dk:Array α) (os:Array Obj) hs h2 h3 h4=>acA L hk h1 d hH hblk hsz x y z m cap dk os hs h2 h3 h4 (.func (.func g) #[] cb));have Ri:=aj IH;clear IH;have XC:=aj (fun m dk os hs i j hi hj=>Fz (P:=P) hk h1 hH hblk m dk os hs i j hi hj);have CX:=aj (fun m dk os hs i j hi hj=>J8 (P:=P) (cf:=cf) hk hcmp hH hblk m dk os hs i j hi hj);have HS:=aj hs;have H1:=aj hs1;have H2:=aj hs2;have SW:=aj hS;clear hcmp hk h1 hH hs hs1 hs2 hS;obtain ⟨W0,hW0⟩:=aC (sortWorldK enc k w blk off m dk os);rw [←hW0];have HW0:=aj hW0;clear hW0;have mixed:=L.mixed;have t0:=L.t0;have a0:=L.a0;have z0:=L.z0;have v0:=L.v0;have t3:=L.t3;have a3:=L.a3;have z3:=L.z3;have v3:=L.v3;have t4:=L.t4;have a4:=L.a4;have z4:=L.z4;have v4:=L.v4;have tu:=L.tu;have au:=L.au;have zu:=L.zu;have vu:=L.vu;have tl:=L.tl;have al:=L.al;have zl:=L.zl;have vl:=L.vl;have tf:=L.tf;have af:=L.af;have zf:=L.zf;have vf:=L.vf;have aE:=L.aE;have zE:=L.zE;have ul:=run_underlying L.tl;have FN:=L.fm;have er:∀ args w,(callFunc 206 args).run P w=.ok (.enter 206 args) w:=enters_of L.fr aF rfl;have em:∀ args w,(callFunc 166 args).run P w=.ok (.enter 166 args) w:=enters_of L.fm aF rfl;clear L;obtain ⟨mm,hmm⟩:=aC (mid-a);have emm:(mid:Int)-(a:Int)=(mm:Int):=ay;have wmm:IntKind.i64.wrap (mm:Int)=(mm:Int):=by rw [IntKind.wrap_i64];omega
 have nmm:((mm:Int)==1)=false:=beq_eq_false_iff_ne.2 ay;obtain ⟨bm,vZ⟩:=aC (b-mid);have ebm:(b:Int)-(mid:Int)=(bm:Int):=ay;have wbm:IntKind.i64.wrap (bm:Int)=(bm:Int):=by rw [IntKind.wrap_i64];omega
 have nbm:((bm:Int)==1)=false:=beq_eq_false_iff_ne.2 ay;clear hmm vZ;obtain ⟨c,hc⟩:=aC ((a+b) / 2);have ec:((a:Int)+(b:Int)) / 2=(c:Int):=ay;obtain ⟨n,hn⟩:=aC (c+mid);have en:(c:Int)+(mid:Int)=(n:Int):=ay;have wn:IntKind.i64.wrap (n:Int)=(n:Int):=by rw [IntKind.wrap_i64];omega
 obtain ⟨nb,hnb⟩:∃ nb:Int,nb=(n:Int)-(b:Int):=⟨_,rfl⟩;obtain ⟨p,hp⟩:=aC (n-1);have ep:(n:Int)-1=(p:Int):=ay;have wp1:IntKind.i64.wrap (p:Int)=(p:Int):=by rw [IntKind.wrap_i64];omega
 have nM:=aj (show a+b≤2*c+1∧2*c≤a+b∧n=c+mid∧p+1=c+mid from ⟨ay,ay,hn,ay⟩);clear hc hn hp hnb;go_enter FN,ntmps166;go_upto_if 140 with fail
 go_cut [20,21] (fun s20 vK wx=>∃ s0 r0:Nat,s20=.int .i64 s0∧vK=.int .i64 r0∧Hid (a≤s0∧s0≤r0∧r0≤mid∧r0≤c∧n≤s0+b∧(r0=c∨r0=mid)∧(s0=a∨n=s0+b))∧wx=W0)
 case first=>as_aux_lemma=>by_cases hmc:c<mid;{have hz:(c:Int)<(mid:Int):=ay;obtain ⟨s0,hs0⟩:=aC (n-b);have es0:(n:Int)-(b:Int)=(s0:Int):=(by have:=nM.out;omega);have ws0:IntKind.i64.wrap (s0:Int)=(s0:Int):=(by rw [IntKind.wrap_i64];have:=nM.out;omega);have vL:=aj hs0;clear hs0;(go_wp2_with fail);go_meet;exact ⟨s0,c,rfl,rfl,by show _∧_;have:=nM.out;have:=vL.out;refine ⟨?_,?_,?_,?_,?_,?_,?_⟩ <;> omega,rfl⟩};{have hz:¬ (c:Int)<(mid:Int):=ay;(go_wp2_with fail);go_meet;exact ⟨a,mid,rfl,rfl,by show _∧_;have:=nM.out;refine ⟨?_,?_,?_,?_,?_,?_,?_⟩ <;> omega,rfl⟩}
 case rest=>
 obtain ⟨s0,r0,rfl,rfl,HB,rfl⟩:=hcut;go_wp2;go_loopg [20,21] (r0-s0) (fun gg vi vj wr=>∃ (i j m':Nat) (os':Array Obj),vi=.int .i64 i∧vj=.int .i64 j∧s0≤i∧i≤j∧j≤r0∧j-i≤gg∧Hid (wr=sortWorldK enc k w blk off m' dk os')∧Hid (i=s0∨ltOf cf dk[p-(i-1)]! dk[i-1]! = false)∧Hid (j=r0∨ltOf cf dk[p-j]! dk[j]! = true))
 case atStart=>exact ⟨s0,r0,m,os,rfl,rfl,Nat.le_refl _,HB.out.2.1,Nat.le_refl _,Nat.le_refl _,HW0.out,.inl rfl,.inl rfl⟩
 case round=>
  obtain ⟨i,j,m',os',rfl,rfl,hi1,hij,hjb,hg,HW,HL,HR⟩:=hrel;by_cases hlt:i<j
  · have hltz:(i:Int)<(j:Int):=ay;obtain ⟨h,hh⟩:=aC ((i+j) / 2);have hb1:i≤h:=ay;have hb2:h<j:=ay;have eh:((i:Int)+(j:Int)) / 2=(h:Int):=ay;have bh:(h:Int)<(d.size:Int):=(by have:=HB.out;omega);clear hh;obtain ⟨y,hy⟩:=aC (p-h);have Rj:y<d.size∧y+h=p:=(by have:=nM.out;have:=HB.out;omega);have ey:(p:Int)-(h:Int)=(y:Int):=ay;have wy:IntKind.i64.wrap (y:Int)=(y:Int):=(by rw [IntKind.wrap_i64];omega);have by0:(y:Int)<(d.size:Int):=ay;have HY:=aj Rj;have Rk:=aj hy;clear Rj hy;have h4:=HY.out.1;have h5:h<d.size:=(by have:=HB.out;omega);obtain ⟨ci,cj,X⟩:=CX.out m' dk os' HS.out y h ay ay;rw [←HW.out] at X;obtain ⟨li,lj,zi,zj,call⟩:=X;obtain ⟨r,hr⟩:=aC (cf dk[y]! dk[h]!);rw [←hr] at call;have HRR:=aj hr;clear hr;by_cases hlv:r<0
    · have pR:=aj hlv;(go_wp2_with fail);go_quiet_grown (first | (go_at_fn g;refine Calls.grown_of (call _ _)))
      have HC:=aj (show grow (wr.drewN nq) osq=sortWorldK enc k w blk off (m'+nq) dk (os'++osq) by rw [HW.out];exact sortWorldK_grown_c enc k w blk off m' nq dk os' osq);clear li lj call;generalize grow (wr.drewN nq) osq=wq at HC ⊢;go_wp2;go_roundg (h-i)
      (case measure=>omega);case rel=>exact ⟨i,h,m'+nq,_,rfl,aN,hi1,ay,ay,ay,HC.out,HL.out,.inr (by rw [←Rk.out];exact J6 HRR.out pR.out)⟩
    · have pR:=aj (show 0≤r by omega);have hd1:decide (r<0)=false:=decide_eq_false hlv;have hd2:decide (0≤r)=true:=decide_eq_true ay;(go_wp2_with fail);go_quiet_grown (first | (go_at_fn g;refine Calls.grown_of (call _ _)))
      have HC:=aj (show grow (wr.drewN nq) osq=sortWorldK enc k w blk off (m'+nq) dk (os'++osq) by rw [HW.out];exact sortWorldK_grown_c enc k w blk off m' nq dk os' osq);clear li lj call;generalize grow (wr.drewN nq) osq=wq at HC ⊢;go_wp2;go_roundg (j-(h+1))
      (case measure=>omega);case rel=>exact ⟨h+1,j,m'+nq,_,aN,rfl,ay,ay,hjb,ay,HC.out,.inr (by rw [Nat.add_sub_cancel,←Rk.out];exact J7 HRR.out pR.out),HR.out⟩
  · obtain rfl:i=j:=ay;have hz:¬ ((i:Int)<(i:Int)):=ay;obtain ⟨e,he⟩:=aC (n-i);have ee:(n:Int)-(i:Int)=(e:Int):=(by have:=nM.out;have:=HB.out;omega);have we:IntKind.i64.wrap (e:Int)=(e:Int):=(by rw [IntKind.wrap_i64];have:=nM.out;have:=HB.out;omega);have HE:=aj (show a≤i∧i≤mid∧mid≤e∧e≤b∧i≤c∧c≤e∧c+mid=i+e∧c≤b∧a≤c∧a+b≤2*c+1∧2*c≤a+b by have:=nM.out;have:=HB.out;refine ⟨?_,?_,?_,?_,?_,?_,?_,?_,?_,?_,?_⟩ <;> omega);have HL2:=aj (show i=a∨e=b∨ltOf cf dk[e]! dk[i-1]! = false by
     have h6:=nM.out;have h7:=HB.out;have h8:=HE.out;rcases HL.out with h | h;{rcases h7.2.2.2.2.2.2 with h9 | h9;{exact .inl ay};{exact .inr (.inl ay)}}
     · by_cases hi0:i=s0;{rcases h7.2.2.2.2.2.2 with h9 | h9;{exact .inl ay};{exact .inr (.inl ay)}}
       · rw [show p-(i-1)=e by omega] at h;exact .inr (.inr h))
    have HR2:=aj (show i=mid∨e=mid∨ltOf cf dk[e-1]! dk[i]! = true by
     have h6:=nM.out;have h7:=HB.out;have h8:=HE.out;rcases HR.out with h | h;{rcases h7.2.2.2.2.2.1 with h9 | h9;{exact .inr (.inl ay)};{exact .inl ay}}
     · rw [show p-i=e-1 by omega] at h;exact .inr (.inr h))
    clear he HL HR hg;(go_upto_region 39 with fail);go_cut [185] (fun sB wx=>∃ B:Bool,sB=.bool B∧Hid (B=decide (i<mid∧mid<e))∧wx=wr)
    (case first=>as_aux_lemma=>by_cases hr1:i<mid;{have Bj:(i:Int)<(mid:Int):=ay;by_cases hr2:mid<e;{have Bl:(mid:Int)<(e:Int):=ay;(go_wp2_with fail);go_meet;exact ⟨true,rfl,(decide_eq_true ⟨hr1,hr2⟩).symm,rfl⟩};{have Bl:¬ (mid:Int)<(e:Int):=ay;(go_wp2_with fail);go_meet;exact ⟨false,rfl,(decide_eq_false (fun h=>ay)).symm,rfl⟩}};{have Bj:¬ (i:Int)<(mid:Int):=ay;(go_wp2_with fail);go_meet;exact ⟨false,rfl,(decide_eq_false (fun h=>ay)).symm,rfl⟩});case rest=>
    obtain ⟨B,rfl,eU,hwx⟩:=hcut;subst hwx;go_upto_if 185 with fail
    go_cut [24] (fun s24 wx=>s24=.int .i64 e∧∃ (m3:Nat) (d3:Array α),Hid (wx=sortWorldK enc k w blk off m3 d3 os')∧Hid (d3.size=d.size)∧Hid (PermIn a b dk d3)∧Hid (St.iG i mid e dk d3))
    case first=>as_aux_lemma=>
     cases B;{have mK:=aj (show ¬ (i<mid∧mid<e) from of_decide_eq_false eU.out.symm);clear eU;by_cases hr1:i<mid;{have hem:e=mid:=(by have:=mK.out;have:=HE.out;omega);have jo:=aj hem;clear hem;(go_wp2_with fail);go_meet;exact ⟨rfl,m',dk,HW.out,HS.out,permIn_refl _ _ _,by show St.iG _ _ _ _ _;rw [jo.out];exact St.Rf _ _ _ ay⟩};{have hem:i=mid:=(by have:=HE.out;omega);have jo:=aj hem;clear hem;(go_wp2_with fail);go_meet;exact ⟨rfl,m',dk,HW.out,HS.out,permIn_refl _ _ _,by show St.iG _ _ _ _ _;rw [jo.out];exact St.acd _ _ _ (by have:=HE.out;omega)⟩}}
     · have hr:=of_decide_eq_true eU.out.symm;obtain ⟨hr1,hr2⟩:=hr;clear eU;have uw:=aj (RT.out i mid e m' dk os' HS.out hr1 hr2 (by have:=HE.out;omega));rw [←HW.out] at uw;(go_wp2_with fail);go_at_fn 206
       refine uw.out.mono ?_;rintro e3 w3 ⟨rfl,m3,d3,hw3,hz3,hp3,hr3⟩;have H3:=aj (And.intro hw3 (And.intro hz3 (And.intro hp3 hr3)));clear hw3 hz3 hp3 hr3;(go_wp2_with fail);go_meet;exact ⟨rfl,m3,d3,H3.out.1,H3.out.2.1,permIn_mono dk d3 i e a b (by have:=HE.out;omega) (by have:=HE.out;omega) (by have:=HS.out;omega) H3.out.2.2.1,H3.out.2.2.2⟩
    case rest=>as_aux_lemma=>
    obtain ⟨rfl,m3,d3,HW3,HZ3,oL,HR3⟩:=hcut;obtain ⟨w3,hw3⟩:=aC wc;subst hw3;have HH:=aj (St.halves SW.out H1.out H2.out (by have:=HE.out;omega) (by have:=HE.out;omega) (by have:=HE.out;omega) (by have:=HE.out;omega) HE.out.2.2.2.2.2.2.1 HL2.out HR2.out HR3.out);clear HR3 HL2 HR2 HW;(go_upto_region 41 with fail);go_cut [199] (fun sB wx=>∃ B:Bool,sB=.bool B∧Hid (B=decide (a<i∧i<c))∧wx=w3)
    (case first=>as_aux_lemma=>by_cases hr1:a<i;{have Bj:(a:Int)<(i:Int):=ay;by_cases hr2:i<c;{have Bl:(i:Int)<(c:Int):=ay;(go_wp2_with fail);go_meet;exact ⟨true,rfl,(decide_eq_true ⟨hr1,hr2⟩).symm,rfl⟩};{have Bl:¬ (i:Int)<(c:Int):=ay;(go_wp2_with fail);go_meet;exact ⟨false,rfl,(decide_eq_false (fun h=>ay)).symm,rfl⟩}};{have Bj:¬ (a:Int)<(i:Int):=ay;(go_wp2_with fail);go_meet;exact ⟨false,rfl,(decide_eq_false (fun h=>ay)).symm,rfl⟩});case rest=>
    obtain ⟨B,rfl,eU,hwx⟩:=hcut;subst hwx;go_upto_if 199 with fail
    go_cut [24] (fun s24 wx=>s24=.int .i64 e∧∃ (m4:Nat) (d4:Array α) (rY:Array Obj),Hid (wx=sortWorldK enc k w blk off m4 d4 rY)∧Hid (d4.size=d.size)∧Hid (PermIn a c d3 d4)∧Hid (SortedIn (ltOf cf) a c d4))
    case first=>as_aux_lemma=>
     cases B;{have mK:=aj (show ¬ (a<i∧i<c) from of_decide_eq_false eU.out.symm);clear eU;by_cases hr1:a<i;{have hem:c=i:=(by have:=mK.out;have:=HE.out;omega);have jo:=aj hem;clear hem;(go_wp2_with fail);go_meet;exact ⟨rfl,m3,d3,os',HW3.out,HZ3.out,permIn_refl _ _ _,by show SortedIn _ _ _ _;rw [jo.out];exact HH.out.l1⟩};{have hem:a=i:=(by have:=HE.out;omega);have jo:=aj hem;clear hem;(go_wp2_with fail);go_meet;exact ⟨rfl,m3,d3,os',HW3.out,HZ3.out,permIn_refl _ _ _,by show SortedIn _ _ _ _;rw [jo.out];exact HH.out.l2⟩}}
     · have hr:=of_decide_eq_true eU.out.symm;obtain ⟨hr1,hr2⟩:=hr;clear eU;have uw:=aj (Ri.out a i c m3 d3 os' (by have:=HE.out;omega) HZ3.out hr1 hr2 (by have:=HE.out;omega) HH.out.l1 HH.out.l2);rw [←HW3.out] at uw;(go_wp2_with fail);go_at_fn 166
       refine uw.out.mono ?_;rintro e3 w4 ⟨rfl,m4,d4,⟨rY,hw4⟩,qJ,mR,hs4⟩;have H4:=aj (And.intro hw4 (And.intro qJ (And.intro mR hs4)));clear hw4 qJ mR hs4;(go_wp2_with fail);go_meet;exact ⟨rfl,m4,d4,rY,H4.out.1,H4.out.2.1,H4.out.2.2.1,H4.out.2.2.2⟩
    case rest=>as_aux_lemma=>
    obtain ⟨rfl,m4,d4,rY,wh,Bo,lK,yE⟩:=hcut;obtain ⟨w4,hw4⟩:=aC wc;subst hw4;(go_upto_region 43 with fail);go_cut [213] (fun sB wx=>∃ B:Bool,sB=.bool B∧Hid (B=decide (c<e∧e<b))∧wx=w4)
    (case first=>as_aux_lemma=>by_cases hr1:c<e;{have Bj:(c:Int)<(e:Int):=ay;by_cases hr2:e<b;{have Bl:(e:Int)<(b:Int):=ay;(go_wp2_with fail);go_meet;exact ⟨true,rfl,(decide_eq_true ⟨hr1,hr2⟩).symm,rfl⟩};{have Bl:¬ (e:Int)<(b:Int):=ay;(go_wp2_with fail);go_meet;exact ⟨false,rfl,(decide_eq_false (fun h=>ay)).symm,rfl⟩}};{have Bj:¬ (c:Int)<(e:Int):=ay;(go_wp2_with fail);go_meet;exact ⟨false,rfl,(decide_eq_false (fun h=>ay)).symm,rfl⟩});case rest=>
    obtain ⟨B,rfl,eU,hwx⟩:=hcut;subst hwx;go_upto_if 213 with fail
    cases B
    · have mK:=aj (show ¬ (c<e∧e<b) from of_decide_eq_false eU.out.symm);clear eU;have oq:=aj (show SortedIn (ltOf cf) c b d4 by
       have h6:=HE.out;have h7:=mK.out;by_cases hr1:c<e;{have hem:b=e:=ay;rw [hem];exact St.Bg HH.out.r1 lK.out (.inr aG)}
       · have hem:e=c:=ay;have h:=St.Bg HH.out.r2 lK.out (.inr ay);rw [hem] at h;exact h)
      have FIN:=aj (St.Rh SW.out (by have:=HE.out;omega) (by have:=HE.out;omega) (by rw [HZ3.out];exact hb) HH.out.cross lK.out yE.out (permIn_refl _ _ _) oq.out);go_wp2;go_end0
      exact ⟨rfl,m4,d4,⟨rY,wh.out⟩,Bo.out,permIn_trans _ _ _ _ _ oL.out FIN.out.1,FIN.out.2⟩
    · have hr:=of_decide_eq_true eU.out.symm;obtain ⟨hr1,hr2⟩:=hr;clear eU;have uw:=aj (Ri.out c e b m4 d4 rY (by have:=HE.out;omega) Bo.out hr1 hr2 hb (St.Bg HH.out.r1 lK.out (.inr aG)) (St.Bg HH.out.r2 lK.out (.inr ay)));rw [←wh.out] at uw;(go_wp2_with fail);go_at_fn 166
      refine uw.out.mono ?_;rintro e3 w5 ⟨rfl,m5,d5,⟨Bp,bG⟩,vF,mU,hs5⟩;have H5:=aj (And.intro bG (And.intro vF (And.intro mU hs5)));clear bG vF mU hs5;have FIN:=aj (St.Rh SW.out (by have:=HE.out;omega) (by have:=HE.out;omega) (by rw [HZ3.out];exact hb) HH.out.cross lK.out yE.out H5.out.2.2.1 H5.out.2.2.2);go_wp2;go_end0
      exact ⟨rfl,m5,d5,⟨Bp,H5.out.1⟩,H5.out.2.1,permIn_trans _ _ _ _ _ oL.out FIN.out.1,FIN.out.2⟩
theorem Rl (L:vY P k) (hk:∀ x,(enc x).length=k) (h1:∀ x,∀ v∈enc x,v.oneCell'=true) (hS:SWO (ltOf cf)) (d:Array α) (g:Nat) (cb:Array Value) (eg:∀ args w,(callFunc g args).run P w=.ok (.enter g args) w) (hcmp:CmpLays P g cb enc k cf blk off d.size w) (hH:HoldsK enc k w blk off d) (hblk:blk<w.heap.size) (hsz:d.size<4611686018427387904):∀ (N a mid b m cap:Nat) (dk:Array α) (os:Array Obj),b-a≤N→dk.size=d.size→a<mid→mid<b→b≤d.size→SortedIn (ltOf cf) a mid dk→SortedIn (ltOf cf) mid b dk →
  Calls P 166 #[.slice (some ⟨blk,off,none⟩) d.size cap,.int .i64 a,.int .i64 mid,.int .i64 b,.func (.func g) #[] cb] (sortWorldK enc k w blk off m dk os) fun e w'=>
   e=.returned (.tuple #[])∧∃ m' d',(∃ os',w'=sortWorldK enc k w blk off m' d' os')∧d'.size=d.size∧PermIn a b dk d'∧SortedIn (ltOf cf) a b d'
 | 0,a,mid,b,m,cap,dk,os,hN,_,h3,h4,_,_,_=>ay
 | N+1,a,mid,b,m,cap,dk,os,hN,hs,J5,hmb,hb,hs1,hs2=>by
  by_cases c1:mid=a+1
  · subst c1
    exact acC L hk h1 hS d g cb eg hcmp hH hblk hsz a b m cap dk os hs hmb hb trivial hs2
  · by_cases c2:b=mid+1
    · subst c2
      exact acD L hk h1 hS d g cb eg hcmp hH hblk hsz a mid m cap dk os hs ay hb hs1 trivial
    · exact acE L hk h1 hS d g cb eg hcmp hH hblk hsz a mid b m cap dk os hs ay ay hb hs1 hs2
       fun x y z m dk os hlt hs h3 h4 h5 h6 h7=>Rl L hk h1 hS d g cb eg hcmp hH hblk hsz N x y z m cap dk os ay hs h3 h4 h5 h6 h7
end
end Go.Proofs.YtockbaekcbeenaaGreatDoor
