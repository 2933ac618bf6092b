/-GSt-/
import Derived.Test.YtjaebndajhppgaaGreatDoorMfHd1
import Derived.Sort.LotA
import Derived.Test.YtjaebndajhppgaaGreatDoorMfGB
import Derived.Test.YtjaebndajhppgaaGreatDoorMfLayG
import Derived.Deep.DeepCutAuto
set_option linter.unusedVariables false
set_option linter.unusedSimpArgs false
set_option maxRecDepth 100000
set_option maxHeartbeats 8000000
namespace Go.Proofs.YtjaebndajhppgaaGreatDoor.St
open Go Go.Sort
theorem le_trans {β:Type} {lt:β→β→Bool} {x y z:β} (hS:SWO lt) (h1:lt y x=false) (h2:lt z y=false):lt z x=false:=hS.ntrans _ _ _ h2 h1
theorem le_of_lt {β:Type} {lt:β→β→Bool} {x y:β} (hS:SWO lt) (h:lt x y=true):lt y x=false:=hS.asymmA h
variable {α:Type} [Inhabited α] {lt:α→α→Bool}
def lY (a b:Nat):Nat→Array α→Array α
 | 0,d=>d
 | n+1,d=>swp (lY a b n d) (a+n) (b+n)
theorem uJ (a b:Nat):∀ (n:Nat) (d:Array α),(lY a b n d).size=d.size
 | 0,d=>rfl
 | n+1,d=>by rw [lY,size_swp,uJ a b n d]
theorem Eh (a b:Nat):∀ (n:Nat) (d:Array α),a+n≤b→b+n≤d.size→∀ k,(lY a b n d)[k]! = if a≤k∧k<a+n then d[k-a+b]! else if b≤k∧k<b+n then d[k-b+a]! else d[k]!
 | 0,d,_,_,k=>by rw [lY,if_neg ak,if_neg ak]
 | n+1,d,h1,h2,k=>by
  have ih:=Eh a b n d ak ak
  have hz:=uJ a b n d
  rw [lY,swp_get _ ak ak]
  by_cases e2:k=b+n
  · subst e2
    rw [ih]
    first
    | (rw [if_pos rfl])
    | skip
    repeat' split
    all_goals first | (exfalso;omega) | (congr 1;omega)
  · rw [ih,ih,ih]
    repeat' split
    all_goals first | (exfalso;omega) | (congr 1;omega) | rfl
theorem Ei (lo hi a b:Nat):∀ (n:Nat) (d:Array α),lo≤a→a+n≤b→b+n≤hi→hi≤d.size→PermIn lo hi d (lY a b n d)
 | 0,d,_,_,_,_=>permIn_refl d lo hi
 | n+1,d,h0,h1,h2,h3=>by
  have ih:=Ei lo hi a b n d h0 ak ak h3
  exact permIn_trans _ _ _ _ _ ih (swp_permIn _ lo hi (a+n) (b+n) ak ak ak ak (by rw [uJ];exact h3))
def gV (a m b:Nat) (d d':Array α):Prop:=∀ k,d'[k]! = if a≤k∧k<a+(b-m) then d[k-a+m]! else if a+(b-m)≤k∧k<b then d[k-(a+(b-m))+a]! else d[k]!
theorem QM (a m:Nat) (d:Array α) (h:a≤m):gV a m m d d:=fun k=>by
 repeat' split
 all_goals first | (exfalso;omega) | (congr 1;omega) | rfl
theorem acH (m b:Nat) (d:Array α) (h:m≤b):gV m m b d d:=fun k=>by
 repeat' split
 all_goals first | (exfalso;omega) | (congr 1;omega) | rfl
theorem acI {m i:Nat} {d:Array α} (h1:i≤m) (h2:m+i≤d.size):gV (m-i) m (m+i) d (lY (m-i) m i d):=fun k=>by
 rw [Eh (m-i) m i d ak h2];repeat' split
 all_goals first | (exfalso;omega) | (congr 1;omega) | rfl
theorem acJ {m i j:Nat} {d d':Array α} (h1:i≤m) (h2:m+j≤d.size) (hij:j<i) (h:gV (m-(i-j)) m (m+j) (lY (m-i) m j d) d'):gV (m-i) m (m+j) d d':=fun k=>by
 rw [h k];simp only [Eh (m-i) m j d ak h2];repeat' split
 all_goals first | (exfalso;omega) | (congr 1;omega) | rfl
theorem acK {m i j:Nat} {d d':Array α} (h1:i≤m) (h2:m+j≤d.size) (hij:i<j) (h:gV (m-i) m (m+(j-i)) (lY (m-i) (m+j-i) i d) d'):gV (m-i) m (m+j) d d':=fun k=>by
 rw [h k];simp only [Eh (m-i) (m+j-i) i d ak ak];repeat' split
 all_goals first | (exfalso;omega) | (congr 1;omega) | rfl
theorem acL {a k:Nat} {d d':Array α} (h:gV a (a+1) (k+1) d d') (hk:a≤k) (hs:k+1<d'.size):gV a (a+1) (k+2) d (swp d' k (k+1)):=fun x=>by
 rw [swp_get _ ak hs,h x,h k,h (k+1)];repeat' split
 all_goals first | (exfalso;omega) | (congr 1;omega) | rfl
theorem acM {m k:Nat} {d d':Array α} (h:gV (k+1) m (m+1) d d') (hk:k+1≤m) (hs:m<d'.size):gV k m (m+1) d (swp d' (k+1) k):=fun x=>by
 rw [swp_get _ ak ak,h x,h k,h (k+1)];repeat' split
 all_goals first | (exfalso;omega) | (congr 1;omega) | rfl
theorem oW {a b i j:Nat} {d:Array α} (hS:SWO lt) (h:SortedIn lt a b d) (hi:a≤i) (hij:i≤j) (hj:j<b):lt d[j]! d[i]! = false:=by rcases Nat.lt_or_ge i j with h1 | h1;{exact h i j hi h1 hj};{obtain rfl:i=j:=ak;exact hS.irrefl _}
theorem acN {a i b:Nat} {d d':Array α} (hS:SWO lt) (h2:SortedIn lt (a+1) b d) (hai:a+1≤i) (hib:i≤b)
  (hl:i=a+1∨lt d[i-1]! d[a]! = true) (hr:i=b∨lt d[i]! d[a]! = false) (hR:gV a (a+1) i d d'):SortedIn lt a b d':=by
 intro p q hp hpq hq;rw [hR p,hR q];repeat' split
 all_goals try (exfalso;omega)
 {exact h2 _ _ ak ak ak};{rename_i c1 c2 c3;have e:p-a+(a+1)=p+1:=ak;have zN:q-(a+(i-(a+1)))+a=a:=ak;rw [e,zN];rcases hl with hl | hl;{omega};{have:=oW hS h2 (i:=p+1) (j:=i-1) ak ak ak;exact le_trans hS this (le_of_lt hS hl)}};{exact h2 _ _ ak ak ak};{rename_i c1 c2 c3 c4;have e0:p-(a+(i-(a+1)))+a=a:=ak;rw [e0];rcases hr with hr | hr;{omega};{exact le_trans hS hr (oW hS h2 ak ak hq)}};{exact h2 _ _ ak ak ak}
theorem acO {a i m:Nat} {d d':Array α} (hS:SWO lt) (h1:SortedIn lt a m d) (hai:a≤i) (hib:i≤m)
  (hl:i=a∨lt d[m]! d[i-1]! = false) (hr:i=m∨lt d[m]! d[i]! = true) (hR:gV i m (m+1) d d'):SortedIn lt a (m+1) d':=by
 have g1:∀ k,k<i→d'[k]! = d[k]!:=fun k hk=>by rw [hR k,if_neg ak,if_neg ak]
 have g2:d'[i]! = d[m]!:=by rw [hR i,if_pos ak];congr 1;omega
 have g3:∀ k,i<k→k≤m→d'[k]! = d[k-1]!:=fun k h3 h4=>by rw [hR k,if_neg ak,if_pos ak];congr 1;omega
 intro p q hp hpq hq;rcases Nat.lt_trichotomy q i with c | c | c;{rw [g1 p ak,g1 q c];exact h1 p q hp hpq ak};{subst c;rw [g2,g1 p hpq];rcases hl with hl | hl;{omega};{exact le_trans hS (oW hS h1 hp (show p≤q-1 by omega) ak) hl}}
 · rw [g3 q c ak];rcases Nat.lt_trichotomy p i with c' | c' | c';{rw [g1 p c'];exact h1 _ _ ak ak ak}
   · subst c';rw [g2];rcases hr with hr | hr;{omega}
     · cases hh:lt d[q-1]! d[m]! with
       | false=>rfl
       | true=>have h3:=oW hS h1 (i:=p) (j:=q-1) hai ak ak;have:=hS.trans _ _ _ hh hr;rw [h3] at this;cases this
   {rw [g3 p c' ak];exact h1 _ _ ak ak ak}
structure acP (lt:α→α→Bool) (a s mid e b:Nat) (d:Array α):Prop where
 l1:SortedIn lt a s d
 l2:SortedIn lt s mid d
 r1:SortedIn lt mid e d
 r2:SortedIn lt e b d
 cross:∀ i j,a≤i→i<mid→mid≤j→j<b→lt d[j]! d[i]! = false
theorem halves {a m b mid s e:Nat} {d d':Array α} (hS:SWO lt) (h1:SortedIn lt a m d) (h2:SortedIn lt m b d) (hs0:a≤s) (hsm:s≤m) (hme:m≤e) (heb:e≤b) (hmid:mid+m=s+e)
  (hl:s=a∨e=b∨lt d[e]! d[s-1]! = false) (hr:s=m∨e=m∨lt d[e-1]! d[s]! = true) (hR:gV s m e d d'):acP lt a s mid e b d':=by
 have g:∀ k,k<s→d'[k]! = d[k]!:=fun k hk=>by rw [hR k,if_neg ak,if_neg ak]
 have g1:∀ k,s≤k→k<mid→d'[k]! = d[k-s+m]!:=fun k h3 h4=>by rw [hR k,if_pos ak]
 have g2:∀ k,mid≤k→k<e→d'[k]! = d[k-mid+s]!:=fun k h3 h4=>by rw [hR k,if_neg ak,if_pos ak];congr 1;omega
 have g3:∀ k,e≤k→d'[k]! = d[k]!:=fun k hk=>by rw [hR k,if_neg ak,if_neg ak]
 refine ⟨?_,?_,?_,?_,?_⟩;{intro p q hp hpq hq;rw [g p ak,g q hq];exact h1 _ _ hp hpq ak};{intro p q hp hpq hq;rw [g1 p hp ak,g1 q ak hq];exact h2 _ _ ak ak ak};{intro p q hp hpq hq;rw [g2 p hp ak,g2 q ak hq];exact h1 _ _ ak ak ak};{intro p q hp hpq hq;rw [g3 p hp,g3 q ak];exact h2 _ _ ak ak ak};{intro p q hp hpm hq oZ;rcases Nat.lt_or_ge p s with c1 | c1;{rw [g p c1];rcases Nat.lt_or_ge q e with c2 | c2;{rw [g2 q hq c2];exact oW hS h1 hp ak ak};{rw [g3 q c2];rcases hl with hl | hl | hl;{omega};{omega};{exact le_trans hS (le_trans hS (oW hS h1 hp (show p≤s-1 by omega) ak) hl) (oW hS h2 hme c2 oZ)}}};{rw [g1 p c1 hpm];rcases Nat.lt_or_ge q e with c2 | c2;{rw [g2 q hq c2];rcases hr with hr | hr | hr;{omega};{omega};{have h3:=oW hS h2 (i:=p-s+m) (j:=e-1) ak ak ak;have h4:=oW hS h1 (i:=s) (j:=q-mid+s) hs0 ak ak;exact le_trans hS (le_trans hS h3 (le_of_lt hS hr)) h4}};{rw [g3 q c2];exact oW hS h2 ak ak oZ}}}
theorem zO {a b lo hi:Nat} {d d':Array α} (h:SortedIn lt a b d) (hP:PermIn lo hi d d') (hf:b≤lo∨hi≤a):SortedIn lt a b d':=by intro p q hp hpq hq;rw [hP.2.1 p ak,hP.2.1 q ak];exact h p q hp hpq hq
theorem QN {a mid b:Nat} {d d1 d2:Array α} (hS:SWO lt) (hm1:a≤mid) (hm2:mid≤b) (hb:b≤d.size) (hc:∀ i j,a≤i→i<mid→mid≤j→j<b→lt d[j]! d[i]! = false)
  (hP1:PermIn a mid d d1) (hS1:SortedIn lt a mid d1) (hP2:PermIn mid b d1 d2) (hS2:SortedIn lt mid b d2):PermIn a b d d2∧SortedIn lt a b d2:=by have q1:PermIn a b d d1:=permIn_mono d d1 a mid a b aF hm2 hb hP1;have q2:PermIn a b d1 d2:=permIn_mono d1 d2 mid b a b hm1 aF (by rw [hP1.1];exact hb) hP2;refine ⟨permIn_trans _ _ _ _ _ q1 q2,?_⟩;intro p q hp hpq hq;rcases Nat.lt_or_ge q mid with c | c;{rw [hP2.2.1 p ak,hP2.2.1 q ak];exact hS1 p q hp hpq c};{rcases Nat.lt_or_ge p mid with c' | c';{have h1:∀ j,mid≤j→j<b→∀ i,a≤i→i<mid→lt d1[j]! d1[i]! = false:=fun j h3 h4=>(by rw [hP1.2.1 j ak];exact permIn_all d d1 a mid (fun x=>lt d[j]! x=false) ak hP1 (fun i h5 h6=>hc i j h5 h6 h3 h4));have h2:=permIn_all d1 d2 mid b (fun x=>lt x d1[p]! = false) (by rw [hP1.1];exact hb) hP2 (fun j h3 h4=>h1 j h3 h4 p hp c') q c hq;rw [hP2.2.1 p ak];exact h2};{exact hS2 p q c' hpq hq}}
def aC (lt:α→α→Bool) (s n:Nat) (d:Array α):Prop:=∀ q,SortedIn lt (q*s) (min (q*s+s) n) d
theorem acQ {s n:Nat} {d:Array α} (h:aC lt s n d) (hn:n≤s):SortedIn lt 0 n d:=by have:=h 0;rw [Nat.zero_mul,Nat.zero_add,Nat.min_eq_right hn] at this;exact this
theorem zP {q s hi:Nat} {d d':Array α} (h:aC lt s (q*s) d) (hhi:hi≤q*s+s) (hP:PermIn (q*s) hi d d') (hS1:SortedIn lt (q*s) hi d'):aC lt s hi d':=by intro r;rcases Nat.lt_trichotomy r q with c | c | c;{have:=Nat.mul_le_mul_right s (show r+1≤q from c);rw [Nat.add_mul,Nat.one_mul] at this;have h1:=h r;rw [Nat.min_eq_left ak] at h1;intro i j hi' hij hj;rw [hP.2.1 i ak,hP.2.1 j ak];exact h1 i j hi' hij ak};{subst c;rw [Nat.min_eq_right hhi];exact hS1};{have:=Nat.mul_le_mul_right s (show q+1≤r from c);rw [Nat.add_mul,Nat.one_mul] at this;intro i j hi' hij hj;omega}
structure Half (lt:α→α→Bool) (s q n:Nat) (d:Array α):Prop where
 done:aC lt (2*s) (q*(2*s)) d
 rest:∀ r,2*q≤r→SortedIn lt (r*s) (min (r*s+s) n) d
theorem half_start {s n:Nat} {d:Array α} (h:aC lt s n d):Half lt s 0 n d:=
 ⟨fun r i j hi hij hj=>ak,fun r _=>h r⟩
theorem acR {s q n:Nat} {d:Array α} (h:Half lt s q n d) (hb:q*(2*s)+2*s≤n):SortedIn lt (q*(2*s)) (q*(2*s)+s) d∧SortedIn lt (q*(2*s)+s) (q*(2*s)+2*s) d:=by
 have e1:2*q*s=q*(2*s):=by rw [Nat.mul_comm 2 q,Nat.mul_assoc]
 have e2:(2*q+1)*s=q*(2*s)+s:=by rw [Nat.add_mul,e1,Nat.one_mul]
 have h1:=h.rest (2*q) aF;have h2:=h.rest (2*q+1) ak;rw [e1,Nat.min_eq_left ak] at h1;rw [e2,Nat.min_eq_left ak] at h2;exact ⟨h1,by rw [show q*(2*s)+2*s=q*(2*s)+s+s by omega];exact h2⟩
theorem acS {s q n:Nat} {d d':Array α} (h:Half lt s q n d) (hP:PermIn (q*(2*s)) (q*(2*s)+2*s) d d') (hS1:SortedIn lt (q*(2*s)) (q*(2*s)+2*s) d'):Half lt s (q+1) n d':=by refine ⟨?_,fun r hr=>?_⟩;{have:=zP h.done aF hP hS1;rw [Nat.add_mul,Nat.one_mul];exact this};{have e1:(2*(q+1))*s=q*(2*s)+2*s:=(by rw [Nat.mul_comm 2 (q+1),Nat.mul_assoc,Nat.add_mul,Nat.one_mul]);have:=Nat.mul_le_mul_right s hr;exact zO (h.rest r ak) hP (Or.inr ak)}
theorem acT {s q n:Nat} {d:Array α} (h:Half lt s q n d) (h1:q*(2*s)+s<n) (h2:n≤q*(2*s)+2*s):SortedIn lt (q*(2*s)) (q*(2*s)+s) d∧SortedIn lt (q*(2*s)+s) n d:=by
 have e1:2*q*s=q*(2*s):=by rw [Nat.mul_comm 2 q,Nat.mul_assoc]
 have e2:(2*q+1)*s=q*(2*s)+s:=by rw [Nat.add_mul,e1,Nat.one_mul]
 have k1:=h.rest (2*q) aF;have k2:=h.rest (2*q+1) ak;rw [e1,Nat.min_eq_left ak] at k1;rw [e2,Nat.min_eq_right ak] at k2;exact ⟨k1,k2⟩
theorem acU {s q n:Nat} {d:Array α} (h:Half lt s q n d) (h1:n≤q*(2*s)+s) (h0:q*(2*s)≤n):aC lt (2*s) n d:=by
 have e1:2*q*s=q*(2*s):=by rw [Nat.mul_comm 2 q,Nat.mul_assoc]
 have k1:=h.rest (2*q) aF;rw [e1,Nat.min_eq_right ak] at k1;exact zP h.done ak (permIn_refl d _ _) k1
theorem acV {s q n:Nat} {d d':Array α} (h:Half lt s q n d) (h2:n≤q*(2*s)+2*s) (hP:PermIn (q*(2*s)) n d d') (hS1:SortedIn lt (q*(2*s)) n d'):aC lt (2*s) n d':=
 zP h.done h2 hP hS1
end Go.Proofs.YtjaebndajhppgaaGreatDoor.St
namespace Go.Proofs.YtjaebndajhppgaaGreatDoor
open Go.Proofs.Tryz
open Go.ChangeShapes Go.WideShapes Go.ChangeAt Go.RowKit Go.Sort Go.Lib
structure uK (P:Program) (k:Nat):Prop where
 mixed:P.follows .mixedOrders=true
 fw:P.funcs[248]?=some Tryz.f248
 fr:P.funcs[227]?=some Tryz.f227
 fm:P.funcs[188]?=some Tryz.f188
 fs:P.funcs[144]?=some Tryz.f144
 t0:P.underlying 0=some (TypeDesc.tuple #[])
 a0:∀ w,(isAgg 0).run P w=.ok false w
 z0:∀ w,(Go.sizeOf 0).run P w=.ok 1 w
 v0:∀ w,(zeroValue 0).run P w=.ok (Value.tuple #[]) w
 t3:P.underlying 3=some (TypeDesc.int IntKind.i64)
 a3:∀ w,(isAgg 3).run P w=.ok false w
 z3:∀ w,(Go.sizeOf 3).run P w=.ok 1 w
 v3:∀ w,(zeroValue 3).run P w=.ok (Value.int IntKind.i64 0) w
 t4:P.underlying 4=some TypeDesc.bool
 a4:∀ w,(isAgg 4).run P w=.ok false w
 z4:∀ w,(Go.sizeOf 4).run P w=.ok 1 w
 v4:∀ w,(zeroValue 4).run P w=.ok (Value.bool false) w
 tu:P.underlying 57=some (TypeDesc.int IntKind.u64)
 au:∀ w,(isAgg 57).run P w=.ok false w
 zu:∀ w,(Go.sizeOf 57).run P w=.ok 1 w
 vu:∀ w,(zeroValue 57).run P w=.ok (Value.int IntKind.u64 0) w
 tl:P.underlying 155=some (TypeDesc.slice 158)
 al:∀ w,(isAgg 155).run P w=.ok false w
 zl:∀ w,(Go.sizeOf 155).run P w=.ok 1 w
 vl:∀ w,(zeroValue 155).run P w=.ok (Value.slice none 0 0) w
 tf:P.underlying 161=some (TypeDesc.func #[158,158] #[3] false)
 af:∀ w,(isAgg 161).run P w=.ok false w
 zf:∀ w,(Go.sizeOf 161).run P w=.ok 1 w
 vf:∀ w,(zeroValue 161).run P w=.ok Value.nilFunc w
 aE:∀ w,(isAgg 158).run P w=.ok true w
 zE:∀ w,(Go.sizeOf 158).run P w=.ok k w
theorem acW:uK prog 10 where
 mixed:=Tryz.insShown.mixed
 fw:=func248
 fr:=func227
 fm:=func188
 fs:=func144
 t0:=underlying0
 a0:=isAgg0
 z0:=sizeOf0
 v0:=zeroValue0
 t3:=underlying3
 a3:=isAgg3
 z3:=sizeOf3
 v3:=zeroValue3
 t4:=underlying4
 a4:=isAgg4
 z4:=sizeOf4
 v4:=zeroValue4
 tu:=underlying57
 au:=isAgg57
 zu:=sizeOf57
 vu:=zeroValue57
 tl:=underlying155
 al:=isAgg155
 zl:=sizeOf155
 vl:=zeroValue155
 tf:=underlying161
 af:=isAgg161
 zf:=sizeOf161
 vf:=zeroValue161
 aE:=isAgg158
 zE:=sizeOf158
section
variable {α:Type} [Inhabited α] {P:Program} {k:Nat} {enc:α→List Value} {w:World} {blk off:Nat}
structure Xch (P:Program) (k:Nat) (enc:α→List Value) (w:World) (blk off m:Nat) (dk:Array α) (os:Array Obj) (i j:Nat) (ci cj:List Value) (W:World):Prop where
 li:Sem.run P (loadCellsFrom ⟨blk,off+i*k,none⟩ 0 k #[]) W.drew=.ok ci.toArray W.drew
 lj:Sem.run P (loadCellsFrom ⟨blk,off+j*k,none⟩ 0 k #[]) W.drew=.ok cj.toArray W.drew
 s1:Sem.run P (storeCells ⟨blk,off+i*k,none⟩ cj 0) W.drew=.ok () (W.drew.setCells blk (off+i*k) cj)
 s2:Sem.run P (storeCells ⟨blk,off+j*k,none⟩ ci 0) (W.drew.setCells blk (off+i*k) cj)=.ok () ((W.drew.setCells blk (off+i*k) cj).setCells blk (off+j*k) ci)
 zi:ci.length=k
 zj:cj.length=k
 res:(W.drew.setCells blk (off+i*k) cj).setCells blk (off+j*k) ci=sortWorldK enc k w blk off (m+1) (swp dk i j) os
theorem Ej (hk:∀ x,(enc x).length=k) (h1:∀ x,∀ v∈enc x,v.oneCell'=true) {d:Array α} (hH:HoldsK enc k w blk off d) (hblk:blk<w.heap.size) (m:Nat) (dk:Array α) (os:Array Obj) (hs:dk.size=d.size) (i j:Nat) (hi:i<d.size) (hj:j<d.size) :
  ∃ ci cj,Xch P k enc w blk off m dk os i j ci cj (sortWorldK enc k w blk off m dk os):=by
 have hHd:HoldsK enc k (sortWorldK enc k w blk off m dk os).drew blk off dk:=holdsK_sortWorldK_c enc k w blk off d dk m os hH hblk hs;have bnd:∀ x,x<dk.size→x*k+k≤dk.size*k:=fun x hx=>by have:=Nat.mul_le_mul_right k (show x+1≤dk.size from hx);rwa [Nat.add_mul,Nat.one_mul] at this
 refine ⟨enc dk[i]!,enc dk[j]!,?_,?_,?_,?_,hk _,hk _,?_⟩;{exact run_loadCellsFrom_list P _ _ _ k (hk _) (HoldsK.cells hHd hk ak)};{exact run_loadCellsFrom_list P _ _ _ k (hk _) (HoldsK.cells hHd hk ak)};{exact stores_of_holds P hHd (i*k) _ (by rw [hk,size_flatK];exact bnd i ak) (h1 _)};{exact stores_of_holds P (holds_setCells_c hHd (i*k) _ (by rw [hk,size_flatK];exact bnd i ak)) (j*k) _ (by rw [hk,size_setMany,size_flatK];exact bnd j ak) (h1 _)};{exact sortWorldK_swp_c enc k w blk off hk m dk os hblk i j ak ak}
theorem acX (L:uK P k) (hk:∀ x,(enc x).length=k) (h1:∀ x,∀ v∈enc x,v.oneCell'=true) (d:Array α) (hH:HoldsK enc k w blk off d) (hblk:blk<w.heap.size) (hsz:d.size<4611686018427387904) (a b n m cap:Nat) (dk:Array α) (os:Array Obj) (hs:dk.size=d.size) (hab:a+n≤b) (hbn:b+n≤d.size) (f:Value) :
  Calls P 248 #[.slice (some ⟨blk,off,none⟩) d.size cap,.int .i64 a,.int .i64 b,.int .i64 n,f] (sortWorldK enc k w blk off m dk os) fun e w'=>
   e=.returned (.tuple #[])∧∃ m',w'=sortWorldK enc k w blk off m' (St.lY a b n dk) os:=by
 have XC:=aj (fun m dk hs i j hi hj=>Ej (P:=P) hk h1 hH hblk m dk os hs i j hi hj);have HS:=aj hs;clear hk h1 hH hs;have mixed:=L.mixed;have t0:=L.t0;have a0:=L.a0;have z0:=L.z0;have v0:=L.v0;have t3:=L.t3;have a3:=L.a3;have z3:=L.z3;have v3:=L.v3;have t4:=L.t4;have a4:=L.a4;have z4:=L.z4;have v4:=L.v4;have tu:=L.tu;have au:=L.au;have zu:=L.zu;have vu:=L.vu;have tl:=L.tl;have al:=L.al;have zl:=L.zl;have vl:=L.vl;have tf:=L.tf;have af:=L.af;have zf:=L.zf;have vf:=L.vf;have aE:=L.aE;have zE:=L.zE;have ul:=run_underlying L.tl;have FN:=L.fw;clear L;obtain ⟨W0,hW0⟩:=aB (sortWorldK enc k w blk off m dk os);rw [←hW0];have HW0:=aj hW0;clear hW0;go_enter FN,ntmps248;go_wp2;go_loopg [10] n (fun g vi wr=>∃ (i m':Nat),vi=.int .i64 i∧i≤n∧n-i≤g∧Hid (wr=sortWorldK enc k w blk off m' (St.lY a b i dk) os))
 case atStart=>exact ⟨0,m,aN,ak,ak,HW0.out⟩
 case round=>
  obtain ⟨i,m',rfl,hin,hg,HW⟩:=hrel;by_cases hlt:i<n
  · have hltz:(i:Int)<(n:Int):=ak;have w1:IntKind.i64.wrap ((a:Int)+i)=(a:Int)+i:=(by rw [IntKind.wrap_i64];omega);have w2:IntKind.i64.wrap ((b:Int)+i)=(b:Int)+i:=(by rw [IntKind.wrap_i64];omega);obtain ⟨p,hp⟩:=aB (a+i);obtain ⟨q,hq⟩:=aB (b+i);have ep:(a:Int)+i=(p:Int):=ak;have zN:(b:Int)+i=(q:Int):=ak;rw [ep] at w1;rw [zN] at w2;have bp:(p:Int)<(d.size:Int):=ak;have bq:(q:Int)<(d.size:Int):=ak;obtain ⟨ci,cj,X⟩:=XC.out m' (St.lY a b i dk) (by rw [St.uJ];exact HS.out) p q ak ak;rw [←HW.out] at X;obtain ⟨li,lj,s1,s2,zi,zj,res⟩:=X;have RES:=aj res;have HPQ:=aj (show p=a+i∧q=b+i from ⟨hp,hq⟩);clear res hp hq;(go_wp2_with fail);go_big_region_o
    (all_goals go_wp2);go_roundg (n-(i+1))
    (case measure=>omega);case rel=>exact ⟨i+1,m'+1,aN,ak,ak,by show _=_;rw [RES.out,HPQ.out.1,HPQ.out.2];rfl⟩
  · have hltz:¬ (i:Int)<(n:Int):=ak;have hi:i=n:=ak;subst hi;go_wp2;go_end0
    exact ⟨rfl,m',HW.out⟩
end
open Go.ChangeShapes Go.WideShapes Go.ChangeAt Go.RowKit Go.Sort Go.Lib
section
variable {α:Type} [Inhabited α] {P:Program} {k:Nat} {enc:α→List Value} {w:World} {blk off:Nat}
theorem acY (L:uK P k) (hk:∀ x,(enc x).length=k) (h1:∀ x,∀ v∈enc x,v.oneCell'=true) (d:Array α) (hH:HoldsK enc k w blk off d) (hblk:blk<w.heap.size) (hsz:d.size<4611686018427387904) (a mid b m cap:Nat) (dk:Array α) (os:Array Obj) (hs:dk.size=d.size) (Iw:a<mid) (hmb:mid<b) (hb:b≤d.size) (f:Value) :
  Calls P 227 #[.slice (some ⟨blk,off,none⟩) d.size cap,.int .i64 a,.int .i64 mid,.int .i64 b,f] (sortWorldK enc k w blk off m dk os) fun e w'=>
   e=.returned (.tuple #[])∧∃ m' d',w'=sortWorldK enc k w blk off m' d' os∧d'.size=d.size∧PermIn a b dk d'∧St.gV a mid b dk d':=by
 have SW:=aj (fun (x y n m:Nat) (dk:Array α) hs h2 h3=>acX L hk h1 d hH hblk hsz x y n m cap dk os hs h2 h3 f);have HS:=aj hs;clear hk h1 hH hs;obtain ⟨W0,hW0⟩:=aB (sortWorldK enc k w blk off m dk os);rw [←hW0];have HW0:=aj hW0;clear hW0;have mixed:=L.mixed;have t0:=L.t0;have a0:=L.a0;have z0:=L.z0;have v0:=L.v0;have t3:=L.t3;have a3:=L.a3;have z3:=L.z3;have v3:=L.v3;have t4:=L.t4;have a4:=L.a4;have z4:=L.z4;have v4:=L.v4;have tu:=L.tu;have au:=L.au;have zu:=L.zu;have vu:=L.vu;have tl:=L.tl;have al:=L.al;have zl:=L.zl;have vl:=L.vl;have tf:=L.tf;have af:=L.af;have zf:=L.zf;have vf:=L.vf;have aE:=L.aE;have zE:=L.zE;have ul:=run_underlying L.tl;have FN:=L.fr;have ew:∀ args w,(callFunc 248 args).run P w=.ok (.enter 248 args) w:=enters_of L.fw aG rfl;clear L;obtain ⟨i0,hi0⟩:=aB (mid-a);obtain ⟨j0,hj0⟩:=aB (b-mid);have e1:(mid:Int)-(a:Int)=(i0:Int):=ak;have e2:(b:Int)-(mid:Int)=(j0:Int):=ak;have w1:IntKind.i64.wrap (i0:Int)=(i0:Int):=by rw [IntKind.wrap_i64];omega
 have w2:IntKind.i64.wrap (j0:Int)=(j0:Int):=by rw [IntKind.wrap_i64];omega
 have HI:=aj (show a=mid-i0∧b=mid+j0∧i0≤mid from ⟨ak,ak,ak⟩);have q1:0<i0:=ak;have q2:0<j0:=ak;clear hi0 hj0;go_enter FN,ntmps227;go_wp2;go_loopg [10,11] (i0+j0) (fun g vi vj wr=>∃ (i j m':Nat) (d':Array α),vi=.int .i64 i∧vj=.int .i64 j∧0<i∧0<j∧i+j≤g∧i≤mid∧a≤mid-i∧mid+j≤b∧Hid (wr=sortWorldK enc k w blk off m' d' os)∧Hid (d'.size=d.size)∧Hid (PermIn a b dk d')∧Hid (∀ d2,St.gV (mid-i) mid (mid+j) d' d2→St.gV a mid b dk d2))
 case atStart=>exact ⟨i0,j0,m,dk,rfl,rfl,q1,q2,Nat.le_refl _,HI.out.2.2,ak,ak,HW0.out,HS.out,permIn_refl _ _ _,fun d2 h=>by rw [HI.out.1,HI.out.2.1];exact h⟩
 case round=>
  obtain ⟨i,j,m',d',rfl,rfl,p1,p2,hg,him,hai,hjb,HW,HZ,HP,HR⟩:=hrel;clear w1 w2 e1 e2;have DX:=aj HW.out;have e5:(mid:Int)-(i:Int)=((mid-i:Nat):Int):=ak;obtain ⟨x,hx⟩:=aB (mid-i);rw [←hx] at e5;have w5:IntKind.i64.wrap (x:Int)=(x:Int):=by rw [IntKind.wrap_i64];omega
  rcases Nat.lt_trichotomy i j with c | c | c
  · have c1:((i:Int)==(j:Int))=false:=beq_eq_false_iff_ne.2 ak;have c2:¬ (j:Int)<(i:Int):=ak;obtain ⟨y,hy⟩:=aB (mid+j-i);have e6:(mid:Int)+(j:Int)-(i:Int)=(y:Int):=ak;have w7:IntKind.i64.wrap ((mid:Int)+(j:Int))=(mid:Int)+(j:Int):=(by rw [IntKind.wrap_i64];omega);have w6:IntKind.i64.wrap (y:Int)=(y:Int):=(by rw [IntKind.wrap_i64];omega);have e8:(j:Int)-(i:Int)=((j-i:Nat):Int):=ak;obtain ⟨z,hz⟩:=aB (j-i);rw [←hz] at e8;have w8:IntKind.i64.wrap (z:Int)=(z:Int):=(by rw [IntKind.wrap_i64];omega);have sw:=aj (SW.out x y i m' d' HZ.out ak ak);have o9:=aj (show x=mid-i∧y=mid+j-i∧z=j-i from ⟨hx,hy,hz⟩);have HN:=aj (show mid+j≤d'.size by rw [HZ.out];omega);rw [←HW.out] at sw;clear hx hy hz;(go_wp2_with fail);go_at_fn 248
    refine sw.out.mono ?_;rintro e w3 ⟨rfl,m3,hw3⟩;have HW3:=aj hw3;clear hw3;go_wp2;go_roundg (i+z)
    (case measure=>have:=o9.out;omega);case rel=>
     obtain ⟨rfl,rfl,rfl⟩:=o9.out;exact ⟨i,j-i,m3,_,rfl,rfl,p1,ak,ak,him,hai,ak,HW3.out,by show _=_;rw [St.uJ];exact HZ.out,
      permIn_trans _ _ _ _ _ HP.out (St.Ei a b _ _ i d' hai ak ak (by have:=HP.out.1;have:=HZ.out;omega)),fun d2 h=>HR.out d2 (St.acK him HN.out c h)⟩
  · subst c;have sw:=aj (SW.out x mid i m' d' HZ.out ak ak);have o9:=aj (show x=mid-i from hx);have HN:=aj (show mid+i≤d'.size by rw [HZ.out];omega);rw [←HW.out] at sw;clear hx;(go_wp2_with fail);go_at_fn 248
    refine sw.out.mono ?_;rintro e w3 ⟨rfl,m3,hw3⟩;have HW3:=aj hw3;clear hw3;go_wp2;go_end0
    refine ⟨rfl,m3,_,HW3.out,by rw [St.uJ];exact HZ.out,?_,?_⟩;{rw [o9.out];exact permIn_trans _ _ _ _ _ HP.out (St.Ei a b _ _ i d' hai ak ak (by have:=HP.out.1;have:=HZ.out;omega))};{rw [o9.out];exact HR.out _ (St.acI him HN.out)}
  · have c1:((i:Int)==(j:Int))=false:=beq_eq_false_iff_ne.2 ak;have c2:(j:Int)<(i:Int):=ak;have e8:(i:Int)-(j:Int)=((i-j:Nat):Int):=ak;obtain ⟨z,hz⟩:=aB (i-j);rw [←hz] at e8;have w8:IntKind.i64.wrap (z:Int)=(z:Int):=(by rw [IntKind.wrap_i64];omega);have sw:=aj (SW.out x mid j m' d' HZ.out ak ak);have o9:=aj (show x=mid-i∧z=i-j from ⟨hx,hz⟩);have HN:=aj (show mid+j≤d'.size by rw [HZ.out];omega);rw [←HW.out] at sw;clear hx hz;(go_wp2_with fail);go_at_fn 248
    refine sw.out.mono ?_;rintro e w3 ⟨rfl,m3,hw3⟩;have HW3:=aj hw3;clear hw3;go_wp2;go_roundg (z+j)
    (case measure=>have:=o9.out;omega);case rel=>
     obtain ⟨rfl,rfl⟩:=o9.out;exact ⟨i-j,j,m3,_,rfl,rfl,ak,p2,ak,ak,ak,hjb,HW3.out,by show _=_;rw [St.uJ];exact HZ.out,
      permIn_trans _ _ _ _ _ HP.out (St.Ei a b _ _ j d' hai ak ak (by have:=HP.out.1;have:=HZ.out;omega)),fun d2 h=>HR.out d2 (St.acJ him HN.out c h)⟩
end
open Go.ChangeShapes Go.WideShapes Go.ChangeAt Go.RowKit Go.Sort Go.Lib
section
variable {α:Type} [Inhabited α] {P:Program} {k:Nat} {enc:α→List Value} {cf:α→α→Int} {w:World} {blk off:Nat}
theorem Iy {α:Type} {cf:α→α→Int} {x y:α} {r:Int} (h:r=cf x y) (hr:r<0):ltOf cf x y=true:=by unfold ltOf;rw [←h];exact decide_eq_true hr
theorem Iz {α:Type} {cf:α→α→Int} {x y:α} {r:Int} (h:r=cf x y) (hr:0≤r):ltOf cf x y=false:=by unfold ltOf;rw [←h];exact decide_eq_false ak
structure acZ (P:Program) (k g:Nat) (cb:Array Value) (r:Int) (blk off i j:Nat) (ci cj:List Value) (W:World):Prop where
 li:∀ n os,Sem.run P (loadCellsFrom ⟨blk,off+i*k,none⟩ 0 k #[]) (grow (W.drewN n) os)=.ok ci.toArray (grow (W.drewN n) os)
 lj:∀ n os,Sem.run P (loadCellsFrom ⟨blk,off+j*k,none⟩ 0 k #[]) (grow (W.drewN n) os)=.ok cj.toArray (grow (W.drewN n) os)
 zi:ci.length=k
 zj:cj.length=k
 call:∀ n os,Calls P g (#[.agg ci.toArray,.agg cj.toArray]++cb) (grow (W.drewN n) os) fun e w'=>e=.returned (.int .i64 r)∧∃ q os',w'=grow ((grow (W.drewN n) os).drewN q) os'
theorem IB (hk:∀ x,(enc x).length=k) {d:Array α} {g:Nat} {cb:Array Value} (hcmp:CmpLays P g cb enc k cf blk off d.size w) (hH:HoldsK enc k w blk off d) (hblk:blk<w.heap.size) (m:Nat) (dk:Array α) (os:Array Obj) (hs:dk.size=d.size) (i j:Nat) (hi:i<d.size) (hj:j<d.size) :
  ∃ ci cj,acZ P k g cb (cf dk[i]! dk[j]!) blk off i j ci cj (sortWorldK enc k w blk off m dk os):=by
 have hcls:∀ n' os',grow ((sortWorldK enc k w blk off m dk os).drewN n') os'=sortWorldK enc k w blk off (m+n') dk (os++os'):=fun n' os'=>sortWorldK_grown_c enc k w blk off m n' dk os os';have hHc:∀ n' os',HoldsK enc k (grow ((sortWorldK enc k w blk off m dk os).drewN n') os') blk off dk:=fun n' os'=>by rw [hcls];exact holdsK_sortWorldK_c enc k w blk off d dk _ _ hH hblk hs
 refine ⟨enc dk[i]!,enc dk[j]!,fun n os'=>?_,fun n os'=>?_,hk _,hk _,fun n os'=>?_⟩;{exact run_loadCellsFrom_list P _ _ _ k (hk _) (HoldsK.cells (hHc n os') hk ak)};{exact run_loadCellsFrom_list P _ _ _ k (hk _) (HoldsK.cells (hHc n os') hk ak)};{rw [hcls];exact hcmp _ _ dk hs _ _}
theorem ac0 (L:uK P k) (hk:∀ x,(enc x).length=k) (h1:∀ x,∀ v∈enc x,v.oneCell'=true) (hS:SWO (ltOf cf)) (d:Array α) (g:Nat) (cb:Array Value) (eg:∀ args w,(callFunc g args).run P w=.ok (.enter g args) w) (hcmp:CmpLays P g cb enc k cf blk off d.size w) (hH:HoldsK enc k w blk off d) (hblk:blk<w.heap.size) (hsz:d.size<4611686018427387904) (a b m cap:Nat) (dk:Array α) (os:Array Obj) (hs:dk.size=d.size) (hmb:a+1<b) (hb:b≤d.size) (hs1:True) (hs2:SortedIn (ltOf cf) (a+1) b dk) :
  Calls P 188 #[.slice (some ⟨blk,off,none⟩) d.size cap,.int .i64 a,.int .i64 ((a+1:Nat):Int),.int .i64 b,.func (.func g) #[] cb] (sortWorldK enc k w blk off m dk os) fun e w'=>
   e=.returned (.tuple #[])∧∃ m' d',(∃ os',w'=sortWorldK enc k w blk off m' d' os')∧d'.size=d.size∧PermIn a b dk d'∧SortedIn (ltOf cf) a b d':=by
 have XC:=aj (fun m dk os hs i j hi hj=>Ej (P:=P) hk h1 hH hblk m dk os hs i j hi hj);have CX:=aj (fun m dk os hs i j hi hj=>IB (P:=P) (cf:=cf) hk hcmp hH hblk m dk os hs i j hi hj);have HS:=aj hs;have H1:=aj hs1;have H2:=aj hs2;have SW:=aj hS;clear hcmp hk h1 hH hs hs1 hs2 hS;obtain ⟨W0,hW0⟩:=aB (sortWorldK enc k w blk off m dk os);rw [←hW0];have HW0:=aj hW0;clear hW0;have mixed:=L.mixed;have t0:=L.t0;have a0:=L.a0;have z0:=L.z0;have v0:=L.v0;have t3:=L.t3;have a3:=L.a3;have z3:=L.z3;have v3:=L.v3;have t4:=L.t4;have a4:=L.a4;have z4:=L.z4;have v4:=L.v4;have tu:=L.tu;have au:=L.au;have zu:=L.zu;have vu:=L.vu;have tl:=L.tl;have al:=L.al;have zl:=L.zl;have vl:=L.vl;have tf:=L.tf;have af:=L.af;have zf:=L.zf;have vf:=L.vf;have aE:=L.aE;have zE:=L.zE;have ul:=run_underlying L.tl;have FN:=L.fm;clear L;have wm:((a:Int)+1-(a:Int))=1:=ak;have ba:(a:Int)<(d.size:Int):=ak;go_enter FN,ntmps188;go_wp2;go_loopg [10,11] (b-(a+1)) (fun gg vi vj wr=>∃ (i j m':Nat) (os':Array Obj),vi=.int .i64 i∧vj=.int .i64 j∧a+1≤i∧i≤j∧j≤b∧j-i≤gg∧Hid (wr=sortWorldK enc k w blk off m' dk os')∧Hid (i=a+1∨ltOf cf dk[i-1]! dk[a]! = true)∧Hid (j=b∨ltOf cf dk[j]! dk[a]! = false))
 case atStart=>exact ⟨a+1,b,m,os,aN,rfl,Nat.le_refl _,ak,Nat.le_refl _,Nat.le_refl _,HW0.out,.inl rfl,.inl rfl⟩
 case round=>
  obtain ⟨i,j,m',os',rfl,rfl,hi1,hij,hjb,hg,HW,HL,HR⟩:=hrel;by_cases hlt:i<j
  · have hltz:(i:Int)<(j:Int):=ak;obtain ⟨h,hh⟩:=aB ((i+j) / 2);have hb1:i≤h:=ak;have hb2:h<j:=ak;have eh:((i:Int)+(j:Int)) / 2=(h:Int):=ak;have bh:(h:Int)<(d.size:Int):=ak;clear hh;obtain ⟨ci,cj,X⟩:=CX.out m' dk os' HS.out h a ak ak;rw [←HW.out] at X;obtain ⟨li,lj,zi,zj,call⟩:=X;obtain ⟨r,hr⟩:=aB (cf dk[h]! dk[a]!);rw [←hr] at call;have HRR:=aj hr;clear hr;by_cases hlv:r<0
    · have nY:=aj hlv;(go_wp2_with fail);go_quiet_grown (first | (go_at_fn g;refine Calls.grown_of (call _ _)))
      have HC:=aj (show grow (wr.drewN nq) osq=sortWorldK enc k w blk off (m'+nq) dk (os'++osq) by rw [HW.out];exact sortWorldK_grown_c enc k w blk off m' nq dk os' osq);clear li lj call;generalize grow (wr.drewN nq) osq=wq at HC ⊢;go_wp2;go_roundg (j-(h+1))
      (case measure=>omega);case rel=>exact ⟨h+1,j,m'+nq,_,aN,rfl,ak,ak,hjb,ak,HC.out,.inr (by rw [Nat.add_sub_cancel];exact Iy HRR.out nY.out),HR.out⟩
    · have nY:=aj (show 0≤r by omega);have hd1:decide (r<0)=false:=decide_eq_false hlv;have hd2:decide (0≤r)=true:=decide_eq_true ak;(go_wp2_with fail);go_quiet_grown (first | (go_at_fn g;refine Calls.grown_of (call _ _)))
      have HC:=aj (show grow (wr.drewN nq) osq=sortWorldK enc k w blk off (m'+nq) dk (os'++osq) by rw [HW.out];exact sortWorldK_grown_c enc k w blk off m' nq dk os' osq);clear li lj call;generalize grow (wr.drewN nq) osq=wq at HC ⊢;go_wp2;go_roundg (h-i)
      (case measure=>omega);case rel=>exact ⟨i,h,m'+nq,_,rfl,aN,ak,ak,ak,ak,HC.out,HL.out,.inr (Iz HRR.out nY.out)⟩
  · obtain rfl:i=j:=ak;obtain ⟨ip,rfl⟩:∃ ip,i=ip+1:=⟨i-1,ak⟩;have hz:¬ ((ip:Int)+1<(ip:Int)+1):=ak;have wip:IntKind.i64.wrap ((ip:Int)+1-1)=(ip:Int):=(by rw [IntKind.wrap_i64];omega);have eip:(ip:Int)+1-1=(ip:Int):=ak;have aiT:IntKind.i64.wrap (ip:Int)=(ip:Int):=(by rw [IntKind.wrap_i64];omega);go_wp2;go_loopg [13] (ip-a) (fun gg vk wr2=>∃ (x m2:Nat) (d':Array α),vk=.int .i64 x∧a≤x∧x≤ip∧ip-x≤gg∧Hid (wr2=sortWorldK enc k w blk off m2 d' os')∧Hid (d'.size=d.size)∧Hid (PermIn a b dk d')∧Hid (St.gV a (a+1) (x+1) dk d'))
    (case atStart=>exact ⟨a,m',dk,aN,Nat.le_refl _,ak,Nat.le_refl _,HW.out,HS.out,permIn_refl _ _ _,St.QM _ _ _ ak⟩);case round=>
     obtain ⟨x,m2,d',rfl,hax,hxi,hg2,HW2,HZ,HP,zQ⟩:=hrel;by_cases hx:x<ip
     · have hxz:(x:Int)<(ip:Int):=ak;obtain ⟨q,hq⟩:=aB (x+1);have zN:(x:Int)+1=(q:Int):=ak;have wq0:IntKind.i64.wrap (q:Int)=(q:Int):=(by rw [IntKind.wrap_i64];omega);have bx:(x:Int)<(d.size:Int):=ak;have bq:(q:Int)<(d.size:Int):=ak;obtain ⟨ci,cj,X⟩:=XC.out m2 d' os' HZ.out x q ak ak;rw [←HW2.out] at X;obtain ⟨li,lj,s1,s2,zi,zj,res⟩:=X;have RES:=aj res;have HQ:=aj hq;clear res hq;(go_wp2_with fail);go_big_region_o
       (all_goals go_wp2);go_roundg (ip-q)
       (case measure=>have:=HQ.out;omega);case rel=>have hq:=HQ.out;subst hq;exact ⟨x+1,m2+1,_,aN,ak,ak,ak,RES.out,by show _=_;rw [size_swp];exact HZ.out,permIn_trans _ _ _ _ _ HP.out (swp_permIn _ a b x (x+1) ak ak ak ak (by have:=HZ.out;omega)),St.acL zQ.out hax (by have:=HZ.out;omega)⟩
     {have hx':x=ip:=ak;subst hx';have hxz:¬ (x:Int)<(x:Int):=ak;go_wp2;(try simp only [Exit.inBlock,Exit.then]);refine bodyPost_ret (results_none rfl _ _ _) rfl ?_;exact ⟨rfl,m2,d',⟨os',HW2.out⟩,HZ.out,HP.out,St.acN SW.out H2.out ak ak (HL.out.elim .inl .inr) HR.out zQ.out⟩}
end
open Go.ChangeShapes Go.WideShapes Go.ChangeAt Go.RowKit Go.Sort Go.Lib
section
variable {α:Type} [Inhabited α] {P:Program} {k:Nat} {enc:α→List Value} {cf:α→α→Int} {w:World} {blk off:Nat}
theorem ac1 (L:uK P k) (hk:∀ x,(enc x).length=k) (h1:∀ x,∀ v∈enc x,v.oneCell'=true) (hS:SWO (ltOf cf)) (d:Array α) (g:Nat) (cb:Array Value) (eg:∀ args w,(callFunc g args).run P w=.ok (.enter g args) w) (hcmp:CmpLays P g cb enc k cf blk off d.size w) (hH:HoldsK enc k w blk off d) (hblk:blk<w.heap.size) (hsz:d.size<4611686018427387904) (a mid m cap:Nat) (dk:Array α) (os:Array Obj) (hs:dk.size=d.size) (Iw:a+1<mid) (hb:mid+1≤d.size) (hs1:SortedIn (ltOf cf) a mid dk) (hs2:True) :
  Calls P 188 #[.slice (some ⟨blk,off,none⟩) d.size cap,.int .i64 a,.int .i64 mid,.int .i64 ((mid+1:Nat):Int),.func (.func g) #[] cb] (sortWorldK enc k w blk off m dk os) fun e w'=>
   e=.returned (.tuple #[])∧∃ m' d',(∃ os',w'=sortWorldK enc k w blk off m' d' os')∧d'.size=d.size∧PermIn a (mid+1) dk d'∧SortedIn (ltOf cf) a (mid+1) d':=by
 have XC:=aj (fun m dk os hs i j hi hj=>Ej (P:=P) hk h1 hH hblk m dk os hs i j hi hj);have CX:=aj (fun m dk os hs i j hi hj=>IB (P:=P) (cf:=cf) hk hcmp hH hblk m dk os hs i j hi hj);have HS:=aj hs;have H1:=aj hs1;have H2:=aj hs2;have SW:=aj hS;clear hcmp hk h1 hH hs hs1 hs2 hS;obtain ⟨W0,hW0⟩:=aB (sortWorldK enc k w blk off m dk os);rw [←hW0];have HW0:=aj hW0;clear hW0;have mixed:=L.mixed;have t0:=L.t0;have a0:=L.a0;have z0:=L.z0;have v0:=L.v0;have t3:=L.t3;have a3:=L.a3;have z3:=L.z3;have v3:=L.v3;have t4:=L.t4;have a4:=L.a4;have z4:=L.z4;have v4:=L.v4;have tu:=L.tu;have au:=L.au;have zu:=L.zu;have vu:=L.vu;have tl:=L.tl;have al:=L.al;have zl:=L.zl;have vl:=L.vl;have tf:=L.tf;have af:=L.af;have zf:=L.zf;have vf:=L.vf;have aE:=L.aE;have zE:=L.zE;have ul:=run_underlying L.tl;have FN:=L.fm;clear L;have wn:(((mid:Int)-(a:Int))==1)=false:=beq_eq_false_iff_ne.2 ak;obtain ⟨mm,hmm⟩:=aB (mid-a);have emm:(mid:Int)-(a:Int)=(mm:Int):=ak;have wmm:IntKind.i64.wrap (mm:Int)=(mm:Int):=by rw [IntKind.wrap_i64];omega
 have nmm:((mm:Int)==1)=false:=beq_eq_false_iff_ne.2 ak;clear wn hmm;have wm:((mid:Int)+1-(mid:Int))=1:=ak;have ba:(mid:Int)<(d.size:Int):=ak;go_enter FN,ntmps188;go_wp2;go_loopg [14,15] (mid-a) (fun gg vi vj wr=>∃ (i j m':Nat) (os':Array Obj),vi=.int .i64 i∧vj=.int .i64 j∧a≤i∧i≤j∧j≤mid∧j-i≤gg∧Hid (wr=sortWorldK enc k w blk off m' dk os')∧Hid (i=a∨ltOf cf dk[mid]! dk[i-1]! = false)∧Hid (j=mid∨ltOf cf dk[mid]! dk[j]! = true))
 case atStart=>exact ⟨a,mid,m,os,rfl,rfl,Nat.le_refl _,ak,Nat.le_refl _,Nat.le_refl _,HW0.out,.inl rfl,.inl rfl⟩
 case round=>
  obtain ⟨i,j,m',os',rfl,rfl,hi1,hij,hjb,hg,HW,HL,HR⟩:=hrel;by_cases hlt:i<j
  · have hltz:(i:Int)<(j:Int):=ak;obtain ⟨h,hh⟩:=aB ((i+j) / 2);have hb1:i≤h:=ak;have hb2:h<j:=ak;have eh:((i:Int)+(j:Int)) / 2=(h:Int):=ak;have bh:(h:Int)<(d.size:Int):=ak;clear hh;obtain ⟨ci,cj,X⟩:=CX.out m' dk os' HS.out mid h ak ak;rw [←HW.out] at X;obtain ⟨li,lj,zi,zj,call⟩:=X;obtain ⟨r,hr⟩:=aB (cf dk[mid]! dk[h]!);rw [←hr] at call;have HRR:=aj hr;clear hr;by_cases hlv:r<0
    · have nY:=aj hlv;(go_wp2_with fail);go_quiet_grown (first | (go_at_fn g;refine Calls.grown_of (call _ _)))
      have HC:=aj (show grow (wr.drewN nq) osq=sortWorldK enc k w blk off (m'+nq) dk (os'++osq) by rw [HW.out];exact sortWorldK_grown_c enc k w blk off m' nq dk os' osq);clear li lj call;generalize grow (wr.drewN nq) osq=wq at HC ⊢;go_wp2;go_roundg (h-i)
      (case measure=>omega);case rel=>exact ⟨i,h,m'+nq,_,rfl,aN,ak,ak,ak,ak,HC.out,HL.out,.inr (Iy HRR.out nY.out)⟩
    · have nY:=aj (show 0≤r by omega);have hd1:decide (r<0)=false:=decide_eq_false hlv;have hd2:decide (0≤r)=true:=decide_eq_true ak;(go_wp2_with fail);go_quiet_grown (first | (go_at_fn g;refine Calls.grown_of (call _ _)))
      have HC:=aj (show grow (wr.drewN nq) osq=sortWorldK enc k w blk off (m'+nq) dk (os'++osq) by rw [HW.out];exact sortWorldK_grown_c enc k w blk off m' nq dk os' osq);clear li lj call;generalize grow (wr.drewN nq) osq=wq at HC ⊢;go_wp2;go_roundg (j-(h+1))
      (case measure=>omega);case rel=>exact ⟨h+1,j,m'+nq,_,aN,rfl,ak,ak,hjb,ak,HC.out,.inr (by rw [Nat.add_sub_cancel];exact Iz HRR.out nY.out),HR.out⟩
  · obtain rfl:i=j:=ak;have hz:¬ ((i:Int)<(i:Int)):=ak;go_wp2;go_loopg [17] (mid-i) (fun gg vk wr2=>∃ (x m2:Nat) (d':Array α),vk=.int .i64 x∧i≤x∧x≤mid∧x-i≤gg∧Hid (wr2=sortWorldK enc k w blk off m2 d' os')∧Hid (d'.size=d.size)∧Hid (PermIn a (mid+1) dk d')∧Hid (St.gV x mid (mid+1) dk d'))
    case atStart=>exact ⟨mid,m',dk,aN,ak,Nat.le_refl _,Nat.le_refl _,HW.out,HS.out,permIn_refl _ _ _,fun y=>by
     repeat' split
     all_goals first | (exfalso;omega) | (congr 1;omega) | rfl⟩
    case round=>
     obtain ⟨x,m2,d',rfl,hix,hxm,hg2,HW2,HZ,HP,zQ⟩:=hrel;by_cases hx:i<x
     · have hxz:(i:Int)<(x:Int):=ak;obtain ⟨y,rfl⟩:∃ y,x=y+1:=⟨x-1,ak⟩;obtain ⟨q,hq⟩:=aB (y+1);have zN:(y:Int)+1=(q:Int):=ak;have eq1:(q:Int)-1=(y:Int):=ak;have wy0:IntKind.i64.wrap (y:Int)=(y:Int):=(by rw [IntKind.wrap_i64];omega);have wq0:IntKind.i64.wrap (q:Int)=(q:Int):=(by rw [IntKind.wrap_i64];omega);have bx:(y:Int)<(d.size:Int):=ak;have bq:(q:Int)<(d.size:Int):=ak;obtain ⟨ci,cj,X⟩:=XC.out m2 d' os' HZ.out q y ak ak;rw [←HW2.out] at X;obtain ⟨li,lj,s1,s2,zi,zj,res⟩:=X;have RES:=aj res;have HQ:=aj hq;have hxq:(i:Int)<(q:Int):=ak;clear res hq;(go_wp2_with fail);go_big_region_o
       (all_goals go_wp2);go_roundg (y-i)
       (case measure=>have:=HQ.out;omega);case rel=>have hq:=HQ.out;subst hq;exact ⟨y,m2+1,_,aN,ak,ak,ak,RES.out,by show _=_;rw [size_swp];exact HZ.out,permIn_trans _ _ _ _ _ HP.out (swp_permIn _ a (mid+1) (y+1) y ak ak ak ak (by have:=HZ.out;omega)),St.acM zQ.out hxm (by have:=HZ.out;omega)⟩
     {have hx':i=x:=ak;subst hx';have hxz:¬ (i:Int)<(i:Int):=ak;go_wp2;(try simp only [Exit.inBlock,Exit.then]);refine bodyPost_ret (results_none rfl _ _ _) rfl ?_;exact ⟨rfl,m2,d',⟨os',HW2.out⟩,HZ.out,HP.out,St.acO SW.out H1.out ak ak HL.out HR.out zQ.out⟩}
end
open Go.ChangeShapes Go.WideShapes Go.ChangeAt Go.RowKit Go.Sort Go.Lib
section
variable {α:Type} [Inhabited α] {P:Program} {k:Nat} {enc:α→List Value} {cf:α→α→Int} {w:World} {blk off:Nat}
theorem ac2 (L:uK P k) (hk:∀ x,(enc x).length=k) (h1:∀ x,∀ v∈enc x,v.oneCell'=true) (hS:SWO (ltOf cf)) (d:Array α) (g:Nat) (cb:Array Value) (eg:∀ args w,(callFunc g args).run P w=.ok (.enter g args) w) (hcmp:CmpLays P g cb enc k cf blk off d.size w) (hH:HoldsK enc k w blk off d) (hblk:blk<w.heap.size) (hsz:d.size<4611686018427387904) (a mid b m cap:Nat) (dk:Array α) (os:Array Obj) (hs:dk.size=d.size) (Iw:a+1<mid) (hmb:mid+1<b) (hb:b≤d.size) (hs1:SortedIn (ltOf cf) a mid dk) (hs2:SortedIn (ltOf cf) mid b dk)
  (IH:∀ (x y z m:Nat) (dk:Array α) (os:Array Obj),z-x<b-a→dk.size=d.size→x<y→y<z→z≤d.size→SortedIn (ltOf cf) x y dk→SortedIn (ltOf cf) y z dk →
    Calls P 188 #[.slice (some ⟨blk,off,none⟩) d.size cap,.int .i64 x,.int .i64 y,.int .i64 z,.func (.func g) #[] cb] (sortWorldK enc k w blk off m dk os) fun e w'=>
     e=.returned (.tuple #[])∧∃ m' d',(∃ os',w'=sortWorldK enc k w blk off m' d' os')∧d'.size=d.size∧PermIn x z dk d'∧SortedIn (ltOf cf) x z d') :
  Calls P 188 #[.slice (some ⟨blk,off,none⟩) d.size cap,.int .i64 a,.int .i64 mid,.int .i64 b,.func (.func g) #[] cb] (sortWorldK enc k w blk off m dk os) fun e w'=>
   e=.returned (.tuple #[])∧∃ m' d',(∃ os',w'=sortWorldK enc k w blk off m' d' os')∧d'.size=d.size∧PermIn a b dk d'∧SortedIn (ltOf cf) a b d':=by
 have RT:=aj (fun (x y z m:Nat) (dk:Array α) (os:Array Obj) hs h2 h3 h4=>acY L hk h1 d hH hblk hsz x y z m cap dk os hs h2 h3 h4 (.func (.func g) #[] cb));have QO:=aj IH;clear IH;have XC:=aj (fun m dk os hs i j hi hj=>Ej (P:=P) hk h1 hH hblk m dk os hs i j hi hj);have CX:=aj (fun m dk os hs i j hi hj=>IB (P:=P) (cf:=cf) hk hcmp hH hblk m dk os hs i j hi hj);have HS:=aj hs;have H1:=aj hs1;have H2:=aj hs2;have SW:=aj hS;clear hcmp hk h1 hH hs hs1 hs2 hS;obtain ⟨W0,hW0⟩:=aB (sortWorldK enc k w blk off m dk os);rw [←hW0];have HW0:=aj hW0;clear hW0;have mixed:=L.mixed;have t0:=L.t0;have a0:=L.a0;have z0:=L.z0;have v0:=L.v0;have t3:=L.t3;have a3:=L.a3;have z3:=L.z3;have v3:=L.v3;have t4:=L.t4;have a4:=L.a4;have z4:=L.z4;have v4:=L.v4;have tu:=L.tu;have au:=L.au;have zu:=L.zu;have vu:=L.vu;have tl:=L.tl;have al:=L.al;have zl:=L.zl;have vl:=L.vl;have tf:=L.tf;have af:=L.af;have zf:=L.zf;have vf:=L.vf;have aE:=L.aE;have zE:=L.zE;have ul:=run_underlying L.tl;have FN:=L.fm;have er:∀ args w,(callFunc 227 args).run P w=.ok (.enter 227 args) w:=enters_of L.fr aG rfl;have em:∀ args w,(callFunc 188 args).run P w=.ok (.enter 188 args) w:=enters_of L.fm aG rfl;clear L;obtain ⟨mm,hmm⟩:=aB (mid-a);have emm:(mid:Int)-(a:Int)=(mm:Int):=ak;have wmm:IntKind.i64.wrap (mm:Int)=(mm:Int):=by rw [IntKind.wrap_i64];omega
 have nmm:((mm:Int)==1)=false:=beq_eq_false_iff_ne.2 ak;obtain ⟨bm,o_⟩:=aB (b-mid);have ebm:(b:Int)-(mid:Int)=(bm:Int):=ak;have wbm:IntKind.i64.wrap (bm:Int)=(bm:Int):=by rw [IntKind.wrap_i64];omega
 have nbm:((bm:Int)==1)=false:=beq_eq_false_iff_ne.2 ak;clear hmm o_;obtain ⟨c,hc⟩:=aB ((a+b) / 2);have ec:((a:Int)+(b:Int)) / 2=(c:Int):=ak;obtain ⟨n,hn⟩:=aB (c+mid);have en:(c:Int)+(mid:Int)=(n:Int):=ak;have wn:IntKind.i64.wrap (n:Int)=(n:Int):=by rw [IntKind.wrap_i64];omega
 obtain ⟨nb,hnb⟩:∃ nb:Int,nb=(n:Int)-(b:Int):=⟨_,rfl⟩;obtain ⟨p,hp⟩:=aB (n-1);have ep:(n:Int)-1=(p:Int):=ak;have wp1:IntKind.i64.wrap (p:Int)=(p:Int):=by rw [IntKind.wrap_i64];omega
 have kC:=aj (show a+b≤2*c+1∧2*c≤a+b∧n=c+mid∧p+1=c+mid from ⟨ak,ak,hn,ak⟩);clear hc hn hp hnb;go_enter FN,ntmps188;go_upto_if 140 with fail
 go_cut [20,21] (fun s20 uL wx=>∃ s0 r0:Nat,s20=.int .i64 s0∧uL=.int .i64 r0∧Hid (a≤s0∧s0≤r0∧r0≤mid∧r0≤c∧n≤s0+b∧(r0=c∨r0=mid)∧(s0=a∨n=s0+b))∧wx=W0)
 case first=>as_aux_lemma=>by_cases hmc:c<mid;{have hz:(c:Int)<(mid:Int):=ak;obtain ⟨s0,hs0⟩:=aB (n-b);have es0:(n:Int)-(b:Int)=(s0:Int):=(by have:=kC.out;omega);have ws0:IntKind.i64.wrap (s0:Int)=(s0:Int):=(by rw [IntKind.wrap_i64];have:=kC.out;omega);have El:=aj hs0;clear hs0;(go_wp2_with fail);go_meet;exact ⟨s0,c,rfl,rfl,by show _∧_;have:=kC.out;have:=El.out;refine ⟨?_,?_,?_,?_,?_,?_,?_⟩ <;> omega,rfl⟩};{have hz:¬ (c:Int)<(mid:Int):=ak;(go_wp2_with fail);go_meet;exact ⟨a,mid,rfl,rfl,by show _∧_;have:=kC.out;refine ⟨?_,?_,?_,?_,?_,?_,?_⟩ <;> omega,rfl⟩}
 case rest=>
 obtain ⟨s0,r0,rfl,rfl,HB,rfl⟩:=hcut;go_wp2;go_loopg [20,21] (r0-s0) (fun gg vi vj wr=>∃ (i j m':Nat) (os':Array Obj),vi=.int .i64 i∧vj=.int .i64 j∧s0≤i∧i≤j∧j≤r0∧j-i≤gg∧Hid (wr=sortWorldK enc k w blk off m' dk os')∧Hid (i=s0∨ltOf cf dk[p-(i-1)]! dk[i-1]! = false)∧Hid (j=r0∨ltOf cf dk[p-j]! dk[j]! = true))
 case atStart=>exact ⟨s0,r0,m,os,rfl,rfl,Nat.le_refl _,HB.out.2.1,Nat.le_refl _,Nat.le_refl _,HW0.out,.inl rfl,.inl rfl⟩
 case round=>
  obtain ⟨i,j,m',os',rfl,rfl,hi1,hij,hjb,hg,HW,HL,HR⟩:=hrel;by_cases hlt:i<j
  · have hltz:(i:Int)<(j:Int):=ak;obtain ⟨h,hh⟩:=aB ((i+j) / 2);have hb1:i≤h:=ak;have hb2:h<j:=ak;have eh:((i:Int)+(j:Int)) / 2=(h:Int):=ak;have bh:(h:Int)<(d.size:Int):=(by have:=HB.out;omega);clear hh;obtain ⟨y,hy⟩:=aB (p-h);have QS:y<d.size∧y+h=p:=(by have:=kC.out;have:=HB.out;omega);have ey:(p:Int)-(h:Int)=(y:Int):=ak;have wy:IntKind.i64.wrap (y:Int)=(y:Int):=(by rw [IntKind.wrap_i64];omega);have by0:(y:Int)<(d.size:Int):=ak;have HY:=aj QS;have QT:=aj hy;clear QS hy;have h4:=HY.out.1;have h5:h<d.size:=(by have:=HB.out;omega);obtain ⟨ci,cj,X⟩:=CX.out m' dk os' HS.out y h ak ak;rw [←HW.out] at X;obtain ⟨li,lj,zi,zj,call⟩:=X;obtain ⟨r,hr⟩:=aB (cf dk[y]! dk[h]!);rw [←hr] at call;have HRR:=aj hr;clear hr;by_cases hlv:r<0
    · have nY:=aj hlv;(go_wp2_with fail);go_quiet_grown (first | (go_at_fn g;refine Calls.grown_of (call _ _)))
      have HC:=aj (show grow (wr.drewN nq) osq=sortWorldK enc k w blk off (m'+nq) dk (os'++osq) by rw [HW.out];exact sortWorldK_grown_c enc k w blk off m' nq dk os' osq);clear li lj call;generalize grow (wr.drewN nq) osq=wq at HC ⊢;go_wp2;go_roundg (h-i)
      (case measure=>omega);case rel=>exact ⟨i,h,m'+nq,_,rfl,aN,hi1,ak,ak,ak,HC.out,HL.out,.inr (by rw [←QT.out];exact Iy HRR.out nY.out)⟩
    · have nY:=aj (show 0≤r by omega);have hd1:decide (r<0)=false:=decide_eq_false hlv;have hd2:decide (0≤r)=true:=decide_eq_true ak;(go_wp2_with fail);go_quiet_grown (first | (go_at_fn g;refine Calls.grown_of (call _ _)))
      have HC:=aj (show grow (wr.drewN nq) osq=sortWorldK enc k w blk off (m'+nq) dk (os'++osq) by rw [HW.out];exact sortWorldK_grown_c enc k w blk off m' nq dk os' osq);clear li lj call;generalize grow (wr.drewN nq) osq=wq at HC ⊢;go_wp2;go_roundg (j-(h+1))
      (case measure=>omega);case rel=>exact ⟨h+1,j,m'+nq,_,aN,rfl,ak,ak,hjb,ak,HC.out,.inr (by rw [Nat.add_sub_cancel,←QT.out];exact Iz HRR.out nY.out),HR.out⟩
  · obtain rfl:i=j:=ak;have hz:¬ ((i:Int)<(i:Int)):=ak;obtain ⟨e,he⟩:=aB (n-i);have ee:(n:Int)-(i:Int)=(e:Int):=(by have:=kC.out;have:=HB.out;omega);have we:IntKind.i64.wrap (e:Int)=(e:Int):=(by rw [IntKind.wrap_i64];have:=kC.out;have:=HB.out;omega);have HE:=aj (show a≤i∧i≤mid∧mid≤e∧e≤b∧i≤c∧c≤e∧c+mid=i+e∧c≤b∧a≤c∧a+b≤2*c+1∧2*c≤a+b by have:=kC.out;have:=HB.out;refine ⟨?_,?_,?_,?_,?_,?_,?_,?_,?_,?_,?_⟩ <;> omega);have HL2:=aj (show i=a∨e=b∨ltOf cf dk[e]! dk[i-1]! = false by
     have h6:=kC.out;have h7:=HB.out;have h8:=HE.out;rcases HL.out with h | h;{rcases h7.2.2.2.2.2.2 with h9 | h9;{exact .inl ak};{exact .inr (.inl ak)}}
     · by_cases hi0:i=s0;{rcases h7.2.2.2.2.2.2 with h9 | h9;{exact .inl ak};{exact .inr (.inl ak)}}
       · rw [show p-(i-1)=e by omega] at h;exact .inr (.inr h))
    have HR2:=aj (show i=mid∨e=mid∨ltOf cf dk[e-1]! dk[i]! = true by
     have h6:=kC.out;have h7:=HB.out;have h8:=HE.out;rcases HR.out with h | h;{rcases h7.2.2.2.2.2.1 with h9 | h9;{exact .inr (.inl ak)};{exact .inl ak}}
     · rw [show p-i=e-1 by omega] at h;exact .inr (.inr h))
    clear he HL HR hg;(go_upto_region 39 with fail);go_cut [185] (fun sB wx=>∃ B:Bool,sB=.bool B∧Hid (B=decide (i<mid∧mid<e))∧wx=wr)
    (case first=>as_aux_lemma=>by_cases hr1:i<mid;{have zR:(i:Int)<(mid:Int):=ak;by_cases hr2:mid<e;{have zT:(mid:Int)<(e:Int):=ak;(go_wp2_with fail);go_meet;exact ⟨true,rfl,(decide_eq_true ⟨hr1,hr2⟩).symm,rfl⟩};{have zT:¬ (mid:Int)<(e:Int):=ak;(go_wp2_with fail);go_meet;exact ⟨false,rfl,(decide_eq_false (fun h=>ak)).symm,rfl⟩}};{have zR:¬ (i:Int)<(mid:Int):=ak;(go_wp2_with fail);go_meet;exact ⟨false,rfl,(decide_eq_false (fun h=>ak)).symm,rfl⟩});case rest=>
    obtain ⟨B,rfl,dw,hwx⟩:=hcut;subst hwx;go_upto_if 185 with fail
    go_cut [24] (fun s24 wx=>s24=.int .i64 e∧∃ (m3:Nat) (d3:Array α),Hid (wx=sortWorldK enc k w blk off m3 d3 os')∧Hid (d3.size=d.size)∧Hid (PermIn a b dk d3)∧Hid (St.gV i mid e dk d3))
    case first=>as_aux_lemma=>
     cases B;{have fK:=aj (show ¬ (i<mid∧mid<e) from of_decide_eq_false dw.out.symm);clear dw;by_cases hr1:i<mid;{have hem:e=mid:=(by have:=fK.out;have:=HE.out;omega);have qy:=aj hem;clear hem;(go_wp2_with fail);go_meet;exact ⟨rfl,m',dk,HW.out,HS.out,permIn_refl _ _ _,by show St.gV _ _ _ _ _;rw [qy.out];exact St.QM _ _ _ ak⟩};{have hem:i=mid:=(by have:=HE.out;omega);have qy:=aj hem;clear hem;(go_wp2_with fail);go_meet;exact ⟨rfl,m',dk,HW.out,HS.out,permIn_refl _ _ _,by show St.gV _ _ _ _ _;rw [qy.out];exact St.acH _ _ _ (by have:=HE.out;omega)⟩}}
     · have hr:=of_decide_eq_true dw.out.symm;obtain ⟨hr1,hr2⟩:=hr;clear dw;have sD:=aj (RT.out i mid e m' dk os' HS.out hr1 hr2 (by have:=HE.out;omega));rw [←HW.out] at sD;(go_wp2_with fail);go_at_fn 227
       refine sD.out.mono ?_;rintro e3 w3 ⟨rfl,m3,d3,hw3,hz3,hp3,hr3⟩;have H3:=aj (And.intro hw3 (And.intro hz3 (And.intro hp3 hr3)));clear hw3 hz3 hp3 hr3;(go_wp2_with fail);go_meet;exact ⟨rfl,m3,d3,H3.out.1,H3.out.2.1,permIn_mono dk d3 i e a b (by have:=HE.out;omega) (by have:=HE.out;omega) (by have:=HS.out;omega) H3.out.2.2.1,H3.out.2.2.2⟩
    case rest=>as_aux_lemma=>
    obtain ⟨rfl,m3,d3,HW3,HZ3,nC,HR3⟩:=hcut;obtain ⟨w3,hw3⟩:=aB wc;subst hw3;have HH:=aj (St.halves SW.out H1.out H2.out (by have:=HE.out;omega) (by have:=HE.out;omega) (by have:=HE.out;omega) (by have:=HE.out;omega) HE.out.2.2.2.2.2.2.1 HL2.out HR2.out HR3.out);clear HR3 HL2 HR2 HW;(go_upto_region 41 with fail);go_cut [199] (fun sB wx=>∃ B:Bool,sB=.bool B∧Hid (B=decide (a<i∧i<c))∧wx=w3)
    (case first=>as_aux_lemma=>by_cases hr1:a<i;{have zR:(a:Int)<(i:Int):=ak;by_cases hr2:i<c;{have zT:(i:Int)<(c:Int):=ak;(go_wp2_with fail);go_meet;exact ⟨true,rfl,(decide_eq_true ⟨hr1,hr2⟩).symm,rfl⟩};{have zT:¬ (i:Int)<(c:Int):=ak;(go_wp2_with fail);go_meet;exact ⟨false,rfl,(decide_eq_false (fun h=>ak)).symm,rfl⟩}};{have zR:¬ (a:Int)<(i:Int):=ak;(go_wp2_with fail);go_meet;exact ⟨false,rfl,(decide_eq_false (fun h=>ak)).symm,rfl⟩});case rest=>
    obtain ⟨B,rfl,dw,hwx⟩:=hcut;subst hwx;go_upto_if 199 with fail
    go_cut [24] (fun s24 wx=>s24=.int .i64 e∧∃ (m4:Nat) (d4:Array α) (qK:Array Obj),Hid (wx=sortWorldK enc k w blk off m4 d4 qK)∧Hid (d4.size=d.size)∧Hid (PermIn a c d3 d4)∧Hid (SortedIn (ltOf cf) a c d4))
    case first=>as_aux_lemma=>
     cases B;{have fK:=aj (show ¬ (a<i∧i<c) from of_decide_eq_false dw.out.symm);clear dw;by_cases hr1:a<i;{have hem:c=i:=(by have:=fK.out;have:=HE.out;omega);have qy:=aj hem;clear hem;(go_wp2_with fail);go_meet;exact ⟨rfl,m3,d3,os',HW3.out,HZ3.out,permIn_refl _ _ _,by show SortedIn _ _ _ _;rw [qy.out];exact HH.out.l1⟩};{have hem:a=i:=(by have:=HE.out;omega);have qy:=aj hem;clear hem;(go_wp2_with fail);go_meet;exact ⟨rfl,m3,d3,os',HW3.out,HZ3.out,permIn_refl _ _ _,by show SortedIn _ _ _ _;rw [qy.out];exact HH.out.l2⟩}}
     · have hr:=of_decide_eq_true dw.out.symm;obtain ⟨hr1,hr2⟩:=hr;clear dw;have sD:=aj (QO.out a i c m3 d3 os' (by have:=HE.out;omega) HZ3.out hr1 hr2 (by have:=HE.out;omega) HH.out.l1 HH.out.l2);rw [←HW3.out] at sD;(go_wp2_with fail);go_at_fn 188
       refine sD.out.mono ?_;rintro e3 w4 ⟨rfl,m4,d4,⟨qK,hw4⟩,oV,QV,hs4⟩;have H4:=aj (And.intro hw4 (And.intro oV (And.intro QV hs4)));clear hw4 oV QV hs4;(go_wp2_with fail);go_meet;exact ⟨rfl,m4,d4,qK,H4.out.1,H4.out.2.1,H4.out.2.2.1,H4.out.2.2.2⟩
    case rest=>as_aux_lemma=>
    obtain ⟨rfl,m4,d4,qK,qL,zU,jw,Em⟩:=hcut;obtain ⟨w4,hw4⟩:=aB wc;subst hw4;(go_upto_region 43 with fail);go_cut [213] (fun sB wx=>∃ B:Bool,sB=.bool B∧Hid (B=decide (c<e∧e<b))∧wx=w4)
    (case first=>as_aux_lemma=>by_cases hr1:c<e;{have zR:(c:Int)<(e:Int):=ak;by_cases hr2:e<b;{have zT:(e:Int)<(b:Int):=ak;(go_wp2_with fail);go_meet;exact ⟨true,rfl,(decide_eq_true ⟨hr1,hr2⟩).symm,rfl⟩};{have zT:¬ (e:Int)<(b:Int):=ak;(go_wp2_with fail);go_meet;exact ⟨false,rfl,(decide_eq_false (fun h=>ak)).symm,rfl⟩}};{have zR:¬ (c:Int)<(e:Int):=ak;(go_wp2_with fail);go_meet;exact ⟨false,rfl,(decide_eq_false (fun h=>ak)).symm,rfl⟩});case rest=>
    obtain ⟨B,rfl,dw,hwx⟩:=hcut;subst hwx;go_upto_if 213 with fail
    cases B
    · have fK:=aj (show ¬ (c<e∧e<b) from of_decide_eq_false dw.out.symm);clear dw;have G8:=aj (show SortedIn (ltOf cf) c b d4 by
       have h6:=HE.out;have h7:=fK.out;by_cases hr1:c<e;{have hem:b=e:=ak;rw [hem];exact St.zO HH.out.r1 jw.out (.inr aF)}
       · have hem:e=c:=ak;have h:=St.zO HH.out.r2 jw.out (.inr ak);rw [hem] at h;exact h)
      have FIN:=aj (St.QN SW.out (by have:=HE.out;omega) (by have:=HE.out;omega) (by rw [HZ3.out];exact hb) HH.out.cross jw.out Em.out (permIn_refl _ _ _) G8.out);go_wp2;go_end0
      exact ⟨rfl,m4,d4,⟨qK,qL.out⟩,zU.out,permIn_trans _ _ _ _ _ nC.out FIN.out.1,FIN.out.2⟩
    · have hr:=of_decide_eq_true dw.out.symm;obtain ⟨hr1,hr2⟩:=hr;clear dw;have sD:=aj (QO.out c e b m4 d4 qK (by have:=HE.out;omega) zU.out hr1 hr2 hb (St.zO HH.out.r1 jw.out (.inr aF)) (St.zO HH.out.r2 jw.out (.inr ak)));rw [←qL.out] at sD;(go_wp2_with fail);go_at_fn 188
      refine sD.out.mono ?_;rintro e3 w5 ⟨rfl,m5,d5,⟨zV,cK⟩,rZ,QW,hs5⟩;have H5:=aj (And.intro cK (And.intro rZ (And.intro QW hs5)));clear cK rZ QW hs5;have FIN:=aj (St.QN SW.out (by have:=HE.out;omega) (by have:=HE.out;omega) (by rw [HZ3.out];exact hb) HH.out.cross jw.out Em.out H5.out.2.2.1 H5.out.2.2.2);go_wp2;go_end0
      exact ⟨rfl,m5,d5,⟨zV,H5.out.1⟩,H5.out.2.1,permIn_trans _ _ _ _ _ nC.out FIN.out.1,FIN.out.2⟩
theorem QX (L:uK P k) (hk:∀ x,(enc x).length=k) (h1:∀ x,∀ v∈enc x,v.oneCell'=true) (hS:SWO (ltOf cf)) (d:Array α) (g:Nat) (cb:Array Value) (eg:∀ args w,(callFunc g args).run P w=.ok (.enter g args) w) (hcmp:CmpLays P g cb enc k cf blk off d.size w) (hH:HoldsK enc k w blk off d) (hblk:blk<w.heap.size) (hsz:d.size<4611686018427387904):∀ (N a mid b m cap:Nat) (dk:Array α) (os:Array Obj),b-a≤N→dk.size=d.size→a<mid→mid<b→b≤d.size→SortedIn (ltOf cf) a mid dk→SortedIn (ltOf cf) mid b dk →
  Calls P 188 #[.slice (some ⟨blk,off,none⟩) d.size cap,.int .i64 a,.int .i64 mid,.int .i64 b,.func (.func g) #[] cb] (sortWorldK enc k w blk off m dk os) fun e w'=>
   e=.returned (.tuple #[])∧∃ m' d',(∃ os',w'=sortWorldK enc k w blk off m' d' os')∧d'.size=d.size∧PermIn a b dk d'∧SortedIn (ltOf cf) a b d'
 | 0,a,mid,b,m,cap,dk,os,hN,_,h3,h4,_,_,_=>ak
 | N+1,a,mid,b,m,cap,dk,os,hN,hs,Iw,hmb,hb,hs1,hs2=>by
  by_cases c1:mid=a+1
  · subst c1
    exact ac0 L hk h1 hS d g cb eg hcmp hH hblk hsz a b m cap dk os hs hmb hb trivial hs2
  · by_cases c2:b=mid+1
    · subst c2
      exact ac1 L hk h1 hS d g cb eg hcmp hH hblk hsz a mid m cap dk os hs ak hb hs1 trivial
    · exact ac2 L hk h1 hS d g cb eg hcmp hH hblk hsz a mid b m cap dk os hs ak ak hb hs1 hs2
       fun x y z m dk os hlt hs h3 h4 h5 h6 h7=>QX L hk h1 hS d g cb eg hcmp hH hblk hsz N x y z m cap dk os ak hs h3 h4 h5 h6 h7
end
end Go.Proofs.YtjaebndajhppgaaGreatDoor
