/-SoDecM-/
import Derived.Test.YtjaebndajhppgaaGreatDoorMnGFr
import Derived.Test.YtjaebndajhppgaaGreatDoorMnSoFileM
import Derived.Test.YtjaebndajhppgaaGreatDoorMnGRe1
set_option linter.unusedVariables false
set_option maxRecDepth 100000
set_option linter.unusedSimpArgs false
namespace Go.Proofs.YtjaebndajhppgaaGreatDoor
open Go Go.ChangeShapes Go.WideShapes Go.ChangeAt Go.RowKit
theorem aeu (p:Nat) (L:List (List UInt8)) (W:World) (h:lS W p L):Calls Tryz.prog 143 #[.pointer (some ⟨p,0,none⟩)] W fun e W'=>(∃ v,e=.returned v∧iR W v L∧aj W p [v] 166)∧W=W':=by obtain ⟨v,B,hT⟩:=h;have HT:=hid hT;have c0:=B.cell (i:=0) (v:=v) rfl;obtain ⟨a,cap,rfl,_,_,_,_⟩:=hT.open;have HB:=hid B;clear hT B;go_enter Tryz.func143,Tryz.ntmps143;go_wp2;go_ret;exact ⟨⟨_,rfl,HT.out,HB.out⟩,rfl⟩
theorem Rc (p:Nat) (L:List (List UInt8)) (W:World) (h:lS W p L):Calls Tryz.prog 92 #[.pointer (some ⟨p,0,none⟩)] W fun e W'=>e=.returned (.int .i64 L.length)∧W=W':=by
 have LI:=hid (aeu p L W h);clear h;go_enter Tryz.func92,Tryz.ntmps92;go_wp2_with fail
 refine LI.out.mono ?_;rintro e w' ⟨⟨v,rfl,hT,hB⟩,rfl⟩;obtain ⟨a,cap,rfl,_,_,_,_⟩:=hT.open;clear hT hB;go_wp2;go_ret;exact ⟨rfl,rfl⟩
theorem aev (p:Nat) (L:List (List UInt8)) (id:Int) (W:World) (h:lS W p L) (agy:-9223372036854775808≤id):Calls Tryz.prog 93 #[.pointer (some ⟨p,0,none⟩),.int .i64 id] W fun e W'=>e=.returned (str (Fr.ext L id))∧W=W':=by have LN:=hid (Rc p L W h);unfold Fr.ext;by_cases h1:id<1;{rw [if_pos (.inl h1)];go_enter Tryz.func93,Tryz.ntmps93;go_wp2;go_ret;exact ⟨rfl,rfl⟩};{obtain ⟨k,rfl⟩:∃ k:Nat,id=k:=⟨id.toNat,by omega⟩;obtain ⟨v,B,hT⟩:=h;have c0:=B.cell (i:=0) (v:=v) rfl;obtain ⟨a,cap,rfl,hc1,hc2,_,hR⟩:=hT.open;obtain ⟨n,hn⟩:∃ n,n=L.length:=⟨_,rfl⟩;rw [←hn] at LN c0 hR hc1 ⊢;by_cases h2:n<k;{rw [if_pos (.inr (by omega))];clear hT B hn c0 hR;go_enter Tryz.func93,Tryz.ntmps93;(go_wp2_with (go_at_call 92;refine LN.out.mono ?_;rintro e w' ⟨rfl,rfl⟩));go_ret;exact ⟨rfl,rfl⟩};{rw [if_neg (by omega)];obtain ⟨b,off,rfl,hc⟩:=hR.get (show k-1<n by omega);have c1:=hc (k-1) (by omega);unfold Fr.at_;rw [show ((k:Int)).toNat-1=k-1 by omega];obtain ⟨x,hx⟩:∃ x,x=L.getD (k-1) []:=⟨_,rfl⟩;rw [←hx] at c1 ⊢;have hk1:1≤k:=(by omega);have hn63:n≤9223372036854775807:=(by unfold maxLen at hc2;omega);have hwr:IntKind.i64.wrap ((k:Int)-1)=((k-1:Nat):Int):=(by rw [IntKind.wrap_i64];omega);clear hT B hn hR hc hx;go_enter Tryz.func93,Tryz.ntmps93;(go_wp2_with (go_at_call 92;refine LN.out.mono ?_;rintro e w' ⟨rfl,rfl⟩));go_ret;exact ⟨rfl,rfl⟩}}
end Go.Proofs.YtjaebndajhppgaaGreatDoor
namespace Go.Proofs.YtjaebndajhppgaaGreatDoor.Fr
open Go Go.RowKit
def txt (l:List Nat):T:=l.map UInt8.ofNat
def ent (b:List Nat) (x:T) (p:Nat):Option (T×Nat):=
 if b.length<p+2∨x.length<b.getD p 0∨b.length<p+2+b.getD (p+1) 0 then none
 else some (x.take (b.getD p 0)++txt ((b.drop (p+2)).take (b.getD (p+1) 0)),p+2+b.getD (p+1) 0)
def st (b:List Nat):Nat→Option (List T×T×Nat)
 | 0=>some ([],[],2)
 | k+1=>match st b k with
  | none=>none
  | some (L,x,p)=>match ent b x p with
   | none=>none
   | some (y,q)=>some (L++[y],y,q)
def cnt (b:List Nat):Nat:=b.getD 0 0*256+b.getD 1 0
def rd (b:List Nat):Option (List T):=if b.length<2 then none else (st b (cnt b)).map (·.1)
def res (b:List Nat):Option (List T):=match rd b with
 | none=>none
 | some L=>if May L∧aS L L.length=b then some L else none
theorem o9 {b:List Nat} {k:Nat} {L:List T} {x:T} {p:Nat} (h:st b k=some (L,x,p)):st b (k+1)=match ent b x p with | none=>none | some (y,q)=>some (L++[y],y,q):=by rw [st,h]
theorem aew (L:List T) (i:Nat):∀ k,i<k→∃ R,aS L k=aS L i++(enc L i++R):=by
 intro k;induction k with
 | zero=>intro h;omega
 | succ k ih=>intro h;by_cases e:i=k;{exact ⟨[],by rw [e];show aS L k++enc L k=_;rw [List.append_nil]⟩};{obtain ⟨R,hR⟩:=ih (by omega);exact ⟨R++enc L k,by show aS L k++enc L k=_;rw [hR];simp⟩}
theorem Rf:∀ a b:T,a.take (sh a b)=b.take (sh a b)
 | [],[]=>rfl
 | [],_::_=>rfl
 | _::_,[]=>rfl
 | a::x,b::y=>by
  by_cases e:a=b
  · rw [sh,if_pos e,List.take_succ_cons,List.take_succ_cons,Rf x y,e]
  · rw [sh,if_neg e];rfl
theorem aex (s:T):txt (d_ s)=s:=by
 unfold txt d_;rw [List.map_map];have:(UInt8.ofNat ∘ UInt8.toNat)=id:=by funext c;simp
 rw [this,List.map_id]
def yS (L:List T) (k:Nat):T:=if k=0 then [] else at_ L (k-1)
theorem aey {L:List T} {n k:Nat} (hk:k<n):ent (aS L n) (yS L k) (aS L k).length=some (at_ L k,(aS L (k+1)).length):=by
 obtain ⟨R,hR⟩:=aew L k n hk;have hs:=Bw L k;have h1:(aS L n).getD (aS L k).length 0=dV L k:=by rw [hR,CG (Nat.le_refl _),Nat.sub_self];rfl
 have h2:(aS L n).getD ((aS L k).length+1) 0=(at_ L k).length-dV L k:=by rw [hR,CG (by omega),Nat.add_sub_cancel_left];rfl
 have h3:(aS L (k+1)).length=(aS L k).length+2+((at_ L k).length-dV L k):=by show (aS L k++enc L k).length=_;rw [List.length_append,y9];omega
 have h4:(aS L k).length+2+((at_ L k).length-dV L k)≤(aS L n).length:=by rw [hR,List.length_append,List.length_append,y9];omega
 have hx:dV L k≤(yS L k).length∧(yS L k).take (dV L k)=(at_ L k).take (dV L k):=by unfold dV yS;by_cases hm:k % 4=0;{rw [if_pos hm];exact ⟨Nat.zero_le _,rfl⟩};{rw [if_neg hm,if_neg (by omega)];exact ⟨(yC _ _).1,Rf _ _⟩}
 unfold ent;rw [h1,h2,if_neg (by omega),h3];congr 2;have hd:((aS L n).drop ((aS L k).length+2)).take ((at_ L k).length-dV L k)=d_ ((at_ L k).drop (dV L k)):=by rw [hR,←List.drop_drop,List.drop_left];show ((([dV L k,(at_ L k).length-dV L k]++d_ ((at_ L k).drop (dV L k)))++R).drop 2).take _=_;rw [List.append_assoc];show (d_ ((at_ L k).drop (dV L k))++R).take _=_;rw [List.take_append_of_le_length (by unfold d_;rw [List.length_map,List.length_drop];omega),List.take_of_length_le (by unfold d_;rw [List.length_map,List.length_drop];omega)]
 rw [hd,aex,hx.2,List.take_append_drop]
theorem Rh {L:List T}:∀ k,k≤L.length→st (aS L L.length) k=some (L.take k,yS L k,(aS L k).length)
 | 0,_=>rfl
 | k+1,hk=>by
  rw [o9 (Rh k (by omega)),aey (by omega)]
  have e:L.take k++[at_ L k]=L.take (k+1):=by
   rw [List.take_succ_eq_append_getElem (by omega),DX (by omega)]
  show some (L.take k++[at_ L k],at_ L k,(aS L (k+1)).length)=_
  rw [e];rfl
theorem Ri {L:List T}:∀ k,∃ R,aS L k=[L.length / 256 % 256,L.length % 256]++R
 | 0=>⟨[],rfl⟩
 | k+1=>by
  obtain ⟨R,h⟩:=Ri (L:=L) k
  exact ⟨R++enc L k,by show aS L k++enc L k=_;rw [h,List.append_assoc]⟩
theorem aez {a b:Nat} (R:List Nat):cnt ([a,b]++R)=a*256+b:=rfl
theorem aeA {L:List T} (h:May L):cnt (aS L L.length)=L.length∧2≤(aS L L.length).length:=by obtain ⟨R,hR⟩:=Ri (L:=L) L.length;have:=h.1;rw [hR];refine ⟨by rw [aez];omega,by simp⟩
theorem aeB {L:List T} (h:May L):rd (aS L L.length)=some L:=by obtain ⟨h1,h2⟩:=aeA h;unfold rd;rw [if_neg (by omega),h1,Rh L.length (Nat.le_refl _),Option.map_some,List.take_length]
theorem aeC {L:List T} (h:May L):res (aS L L.length)=some L:=by unfold res;rw [aeB h];exact if_pos ⟨h,rfl⟩
end Go.Proofs.YtjaebndajhppgaaGreatDoor.Fr
namespace Go.Proofs.YtjaebndajhppgaaGreatDoor
namespace Pm
def bytes (l:List Int) (w:Nat):List Nat:=(List.range (size l.length w)).map fun t=>byte l w t
theorem aeD (l:List Int) (w:Nat):(bytes l w).length=size l.length w:=by simp [bytes]
theorem aeE (l:List Int) (w t:Nat) (h:t<size l.length w):(bytes l w).getD t 0=byte l w t:=by simp [bytes,List.getD,h]
theorem aeF (bit:Nat→Bool) (c k t j:Nat) (hj:j<c):(Bn.gV bit c k t).testBit j=(decide (c*t+j<k) && bit (c*t+j)):=by unfold Bn.gV;rw [Bn.jh];simp [hj]
theorem Rj (l:List Int) (w j:Nat) (hj:j<8*size l.length w):jV (bytes l w) j=(decide (j<l.length*w) && kE l w j):=by unfold jV;rw [aeE l w (j / 8) (by omega)];unfold byte;rw [aeF _ 8 _ _ _ (by omega),show 8*(j / 8)+j % 8=j by omega]
theorem aeG (n w:Nat):n*w≤8*size n w:=by unfold size;omega
theorem aeH {a b:List Int} (h:a.length=b.length) (hi:∀ i,i<a.length→a.getD i 0=b.getD i 0):a=b:=by refine List.ext_getElem h fun i h1 h2=>?_;have:=hi i h1;simpa [List.getD,h1,h2] using this
theorem aeI (l:List Int) (w:Nat) (h:May l w):nums (bytes l w) w l.length=l:=by
 refine aeH (nums_length _ _ _) fun i hi=>?_;rw [nums_length] at hi;rw [WQ _ _ _ _ hi];obtain ⟨h0,h1⟩:=h.2.2.2 i hi;have:num (bytes l w) w i=(l.getD i 0).toNat:=by unfold num;rw [←Bn.WI w (l.getD i 0).toNat h1];refine Bn.val_congr fun j hj=>?_;have h2:=ac9 hi hj;have h3:=aeG l.length w;rw [Rj l w _ (by omega),decide_eq_true h2,D7 l w i j hj];rfl
 rw [this];omega
end Pm
namespace So
theorem Cm {l:List TT} (h:∀ p∈l,Tm.aN p=true) (hn:l.length≤100):∀ x∈file l,x<256:=fun x hx=>by
 have h1:=sj h hn;have three:∀ k x,x∈Bx.three k→x<256:=fun k x hx=>by unfold Bx.three at hx;simp only [List.mem_cons,List.not_mem_nil,or_false] at hx;rcases hx with rfl | rfl | rfl <;> exact Nat.mod_lt _ (by omega)
 have ent:∀ x∈Bx.entries (secs l),x<256:=fun x hx=>by unfold Bx.entries at hx;obtain ⟨s,_,hs⟩:=List.mem_flatMap.1 hx;unfold Bx.entry at hs;rcases List.mem_cons.1 hs with rfl | hs;{have:=Int.emod_lt_of_pos s.1 (show (0:Int)<256 by omega);have:=Int.emod_nonneg s.1 (show (256:Int)≠0 by omega);omega};{rcases List.mem_append.1 hs with hs | hs <;> exact three _ _ hs}
 unfold file Bx.file at hx;rcases List.mem_append.1 hx with hx | hx;{rcases List.mem_append.1 hx with hx | hx;{unfold Bx.head at hx;rcases List.mem_append.1 hx with hx | hx;{simp only [List.mem_cons,List.not_mem_nil,or_false] at hx;rcases hx with rfl | rfl | rfl | rfl | rfl | rfl;{omega};{omega};{omega};{omega};{omega};{exact Nat.mod_lt _ (by omega)}};{exact ent x hx}};{exact three _ _ hx}};{unfold Bx.bodies secs at hx;obtain ⟨s,hs,hx⟩:=List.mem_flatMap.1 hx;simp only [List.mem_cons,List.not_mem_nil,or_false] at hs;rcases hs with rfl | rfl;{exact He h hn x hx};{exact Qc l x hx}}
end So
end Go.Proofs.YtjaebndajhppgaaGreatDoor
namespace Go.Proofs.YtjaebndajhppgaaGreatDoor
open Go.ChangeShapes Go.WideShapes Go.ChangeAt Go.RowKit
theorem Pm.aeJ (l:List Int) (w:Nat):Noughts (Pm.bytes l w) (l.length*w) (Pm.bytes l w).length:=by intro j h1 h2;rw [Pm.aeD] at h2;rw [Pm.Rj l w j h2,decide_eq_false (by omega)];rfl
namespace So
theorem Rk (l:List TT):packed l=Pm.bytes (eT l) (wid l):=by unfold packed Pm.bytes;rw [oQ]
theorem aeK {l:List TT} (hn:l.length≤100):Un (packed l) ((3*l.length:Nat):Int) ((wid l:Nat):Int):=by have hw:=G9 hn;have h:=Pm.aeJ (eT l) (wid l);rw [←Rk,oQ] at h;refine ⟨by unfold mb;simp;omega,?_,?_⟩;{rw [Int.toNat_natCast,Int.toNat_natCast];exact uU l};{rw [Int.toNat_natCast,Int.toNat_natCast];exact h}
theorem aeL {l:List TT} (hn:l.length≤100):iE (packed l) (3*l.length) (wid l) (3*l.length) 0=(eT l).map gF:=by
 have hb:=Pm.aeI (eT l) (wid l) (G_ hn);rw [←Rk,oQ] at hb;conv=>rhs;rw [←hb]
 unfold iE Pm.nums;rw [List.map_map];refine List.map_congr_left fun t ht=>?_;have ht:=List.mem_range.1 ht;rw [if_pos ht];rfl
theorem Cn:∀ (r:List Rg.T) (i:Nat) (h:i<r.length) (c:Nat),c<3→(r.flatMap eZ)[3*i+c]?=some (Rg.at' r[i] c)
 | [],i,h,_,_=>absurd h (by simp)
 | t::r,0,h,c,hc=>by
  show (eZ t++r.flatMap eZ)[3*0+c]?=_
  rw [List.getElem?_append_left (by show 3*0+c<3;omega)]
  rcases Rg.c3 hc with rfl | rfl | rfl <;> rfl
 | t::r,i+1,h,c,hc=>by
  show (eZ t++r.flatMap eZ)[3*(i+1)+c]?=_
  rw [List.getElem?_append_right (by show 3≤3*(i+1)+c;omega)]
  have e:3*(i+1)+c-(eZ t).length=3*i+c:=by show 3*(i+1)+c-3=_;omega
  rw [e]
  exact Cn r i (by simpa using h) c hc
theorem Iz {l:List TT} {t:T3} (ht:t∈terms l):Fr.ext (texts l) (num (terms l) t:Nat)=sh t:=by
 obtain ⟨i,hi,e1,e2⟩:=tZ ht;have hlen:(texts l).length=(terms l).length:=by unfold texts;rw [List.length_map]
 unfold Fr.ext;rw [e1,if_neg (by rw [hlen];omega)];have:((i+1:Nat):Int).toNat-1=i:=by omega
 rw [this];unfold Fr.at_ texts;simp [List.getD,hi,e2]
theorem aeM {l:List TT} (h:∀ p∈l,Tm.aN p=true) {i:Nat} (hi:i<l.length) :
  ∃ a b c:Nat,(eT l)[3*i]?=some (a:Int)∧(eT l)[3*i+1]?=some (b:Int)∧(eT l)[3*i+2]?=some (c:Int) ∧
   Fr.ext (texts l) (a:Int)=sh l[i].1∧Fr.ext (texts l) (b:Int)=sh l[i].2.1∧Fr.ext (texts l) (c:Int)=sh l[i].2.2:=by
 have hI:i<(ids l).length:=by rw [fO];exact hi
 have he:(ids l)[i]=nums (terms l) l[i]:=by simp [ids]
 obtain ⟨p1,p2,p3⟩:=EU h (List.getElem_mem hi);have f0:=Cn (ids l) i hI 0 (by omega);have f1:=Cn (ids l) i hI 1 (by omega);have f2:=Cn (ids l) i hI 2 (by omega);rw [he] at f0 f1 f2;exact ⟨_,_,_,f0,f1,f2,Iz p1,Iz p2,Iz p3⟩
end So
end Go.Proofs.YtjaebndajhppgaaGreatDoor
