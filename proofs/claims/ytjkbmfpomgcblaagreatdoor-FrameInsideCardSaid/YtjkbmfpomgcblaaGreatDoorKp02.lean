import Derived.Test.YtjkbmfpomgcblaaGreatDoorKp01
import Derived.Test.YtjkbmfpomgcblaaGreatDoorKp00
import Derived.Maps.OwnSet
import Derived.Maps.OwnOps
import Derived.BigQuiet
import Derived.StringKeys
namespace Go.Proofs.YtjkbmfpomgcblaaGreatDoor
theorem xcan (a b:Nat):a ^^^ b ^^^ b=a:=by rw [Nat.xor_assoc,Nat.xor_self,Nat.xor_zero]
theorem xcan' (a b:Nat):a ^^^ (a ^^^ b)=b:=by rw [←Nat.xor_assoc,Nat.xor_self,Nat.zero_xor]
theorem x4 (a b c d:Nat):(a ^^^ b) ^^^ (c ^^^ d)=(a ^^^ c) ^^^ (b ^^^ d):=by
 rw [Nat.xor_assoc,Nat.xor_assoc,←Nat.xor_assoc b,Nat.xor_comm b c,Nat.xor_assoc c]
theorem x_eq_zero {a b:Nat} (h:a ^^^ b=0):a=b:=by
 have:=xcan a b
 rw [h,Nat.zero_xor] at this
 exact this.symm
def st (x:Nat):Nat:=if x % 2=1 then x / 2 ^^^ 2197175160 else x / 2
def stn:Nat→Nat→Nat
 | 0,x=>x
 | k + 1,x=>st (stn k x)
def pass (x:Nat):Nat:=stn 8 x
theorem st_odd {x:Nat} (h:x % 2=1):st x=x / 2 ^^^ 2197175160:=if_pos h
theorem st_even {x:Nat} (h:x % 2≠1):st x=x / 2:=if_neg h
theorem st_xor (a b:Nat):st (a ^^^ b)=st a ^^^ st b:=by
 have hp:(a ^^^ b) % 2=1↔¬(a % 2=1↔b % 2=1):=Nat.xor_mod_two_eq_one
 by_cases ha:a % 2=1 <;> by_cases hb:b % 2=1
 · rw [st_even (by rw [Ne,hp];simp [ha,hb]),st_odd ha,st_odd hb,Nat.xor_div_two,x4,Nat.xor_self,Nat.xor_zero]
 · rw [st_odd (hp.2 (by simp [ha,hb])),st_odd ha,st_even hb,Nat.xor_div_two,Nat.xor_assoc,Nat.xor_assoc,Nat.xor_comm 2197175160]
 · rw [st_odd (hp.2 (by simp [ha,hb])),st_even ha,st_odd hb,Nat.xor_div_two,Nat.xor_assoc]
 · rw [st_even (by rw [Ne,hp];simp [ha,hb]),st_even ha,st_even hb,Nat.xor_div_two]
theorem st_lt {x:Nat} (h:x < 4294967296):st x < 4294967296:=by
 have h2:x / 2 < 2 ^ 32:=by omega
 by_cases hx:x % 2=1
 · rw [st_odd hx];exact Nat.xor_lt_two_pow (n:=32) h2 (by decide)
 · rw [st_even hx];omega
theorem st_eq_zero {x:Nat} (h:x < 4294967296) (h0:st x=0):x=0:=by
 by_cases hx:x % 2=1
 · rw [st_odd hx] at h0;have:=x_eq_zero h0;omega
 · rw [st_even hx] at h0;omega
theorem stn_succ (k x:Nat):stn (k + 1) x=st (stn k x):=rfl
theorem stn_add (a b x:Nat):stn (a + b) x=stn a (stn b x):=by
 induction a with
 | zero=>rw [Nat.zero_add];rfl
 | succ a ih=>rw [Nat.succ_add,stn_succ,ih,stn_succ]
theorem stn_st (k x:Nat):stn k (st x)=stn (k + 1) x:=(stn_add k 1 x).symm
theorem stn_xor (k a b:Nat):stn k (a ^^^ b)=stn k a ^^^ stn k b:=by
 induction k with
 | zero=>rfl
 | succ k ih=>rw [stn_succ,ih,st_xor];rfl
theorem stn_lt (k:Nat) {x:Nat} (h:x < 4294967296):stn k x < 4294967296:=by
 induction k with
 | zero=>exact h
 | succ k ih=>exact st_lt ih
theorem stn_eq_zero (k:Nat) {x:Nat} (h:x < 4294967296) (h0:stn k x=0):x=0:=by
 induction k with
 | zero=>exact h0
 | succ k ih=>exact ih (st_eq_zero (stn_lt k h) h0)
theorem xlt {a b:Nat} (ha:a < 4294967296) (hb:b < 4294967296):a ^^^ b < 4294967296:=Nat.xor_lt_two_pow (n:=32) ha hb
theorem stn_inj (k:Nat) {x y:Nat} (hx:x < 4294967296) (hy:y < 4294967296) (h:stn k x=stn k y):x=y:=by
 refine x_eq_zero (stn_eq_zero k (xlt hx hy) ?_)
 rw [stn_xor,h,Nat.xor_self]
theorem pass_lt {x:Nat} (h:x < 4294967296):pass x < 4294967296:=stn_lt 8 h
def run (c:Nat):List UInt8→Nat
 | []=>c
 | b :: r=>run (pass (c ^^^ b.toNat)) r
theorem byte_lt (b:UInt8):b.toNat < 4294967296:=by have:=b.toNat_lt;omega
theorem run_append (l r:List UInt8):∀ c,run c (l ++ r)=run (run c l) r:=by
 induction l with
 | nil=>intro c;rfl
 | cons b l ih=>intro c;exact ih _
theorem run_snoc (c:Nat) (l:List UInt8) (b:UInt8):run c (l ++ [b])=pass (run c l ^^^ b.toNat):=run_append l [b] c
theorem run_lt (l:List UInt8):∀ {c},c < 4294967296→run c l < 4294967296:=by
 induction l with
 | nil=>intro c h;exact h
 | cons b l ih=>intro c h;exact ih (pass_lt (xlt h (byte_lt b)))
theorem run_take (c:Nat) (l:List UInt8) (k:Nat) (h:k < l.length):run c (l.take (k + 1))=pass (run c (l.take k) ^^^ l[k].toNat):=by
 rw [List.take_succ_eq_append_getElem h,run_snoc]
def inv (x:Nat):Nat:=x ^^^ 4294967295
theorem inv_lt {x:Nat} (h:x < 4294967296):inv x < 4294967296:=xlt h (by decide)
def more (c:Nat) (l:List UInt8):Nat:=inv (run (inv c) l)
def sum (l:List UInt8):Nat:=more 0 l
theorem more_lt {c:Nat} (l:List UInt8) (h:c < 4294967296):more c l < 4294967296:=inv_lt (run_lt l (inv_lt h))
theorem sum_lt (l:List UInt8):sum l < 4294967296:=more_lt l (by decide)
theorem sum_nil:sum []=0:=by decide
def tail4 (n:Nat):List UInt8:=[UInt8.ofNat n,UInt8.ofNat (n / 256),UInt8.ofNat (n / 65536),UInt8.ofNat (n / 16777216)]
def sealL (l:List UInt8):List UInt8:=l ++ tail4 (sum l)
theorem tail4_len (n:Nat):(tail4 n).length=4:=rfl
def openL (l:List UInt8):List UInt8×Nat :=
 if l.length < 4 then ([],7) else if l.drop (l.length - 4)=tail4 (sum (l.take (l.length - 4))) then (l.take (l.length - 4),0) else ([],15)
def val:List UInt8→Nat
 | []=>0
 | b :: r=>b.toNat ^^^ 256 * val r
theorem st_two (y:Nat):st (2 * y)=y:=by rw [st_even (by omega)];omega
theorem stn_pow (k:Nat):∀ y,stn k (y * 2 ^ k)=y:=by
 induction k with
 | zero=>intro y;exact Nat.mul_one y
 | succ k ih=>intro y;rw [←stn_st,Nat.pow_succ,←Nat.mul_assoc,Nat.mul_comm _ 2,st_two,ih]
theorem run_val (l:List UInt8):∀ c,run c l=stn (8 * l.length) (c ^^^ val l):=by
 induction l with
 | nil=>intro c;exact (Nat.xor_zero c).symm
 | cons b l ih =>
   intro c
   show run (stn 8 (c ^^^ b.toNat)) l=_
   rw [ih,List.length_cons,Nat.mul_succ,stn_add]
   congr 1
   show _=stn 8 (c ^^^ (b.toNat ^^^ 256 * val l))
   rw [←Nat.xor_assoc,stn_xor 8 _ (256 * val l),Nat.mul_comm 256,show 256=2 ^ 8 by decide,stn_pow]
theorem xor_byte (b y:Nat) (hb:b < 256):b ^^^ 256 * y=b + 256 * y:=by
 have h1:(b ^^^ 256 * y) % 2 ^ 8=b:=by rw [Nat.xor_mod_two_pow];simp [show 256 * y % 2 ^ 8=0 by omega];omega
 have h2:(b ^^^ 256 * y) / 2 ^ 8=y:=by rw [Nat.xor_div_two_pow];simp [show b / 2 ^ 8=0 by omega]
 omega
theorem val_cons (b:UInt8) (l:List UInt8):val (b :: l)=b.toNat + 256 * val l:=xor_byte _ _ b.toNat_lt
theorem val_lt (l:List UInt8):val l < 2 ^ (8 * l.length):=by
 induction l with
 | nil=>decide
 | cons b l ih =>
   have:=b.toNat_lt
   rw [val_cons,List.length_cons,Nat.mul_succ,Nat.pow_add]
   omega
theorem val_inj (l:List UInt8):∀ r,l.length=r.length→val l=val r→l=r:=by
 induction l with
 | nil=>intro r h _;exact (List.length_eq_zero_iff.1 h.symm).symm
 | cons b l ih =>
   intro r h hv
   cases r with
   | nil=>simp at h
   | cons d r =>
     rw [val_cons,val_cons] at hv
     have:=b.toNat_lt
     have:=d.toNat_lt
     have e:b=d:=UInt8.toNat_inj.1 (by omega)
     rw [e,ih r (by simpa using h) (by omega)]
theorem val_tail4 {n:Nat} (h:n < 4294967296):val (tail4 n)=n:=by
 unfold tail4
 rw [val_cons,val_cons,val_cons,val_cons]
 show (UInt8.ofNat n).toNat + 256 * ((UInt8.ofNat (n / 256)).toNat + 256 * ((UInt8.ofNat (n / 65536)).toNat + 256 * ((UInt8.ofNat (n / 16777216)).toNat + 256 * 0)))=n
 simp
 omega
theorem val_xor (u:List UInt8):∀ (t:List UInt8) (E:Nat),u.length=t.length→E < 2 ^ (8 * t.length) →
   (∀ j (h:j < u.length) (h':j < t.length),u[j].toNat=t[j].toNat ^^^ E / 2 ^ (8 * j) % 256)→val u=val t ^^^ E:=by
 induction u with
 | nil =>
   intro t E hl hE _
   obtain rfl:t=[]:=List.length_eq_zero_iff.1 hl.symm
   obtain rfl:E=0:=by simpa using hE
   rfl
 | cons b u ih =>
   intro t E hl hE h
   cases t with
   | nil=>simp at hl
   | cons d t =>
     have h0:=h 0 (by simp) (by simp)
     have hE':E / 256 < 2 ^ (8 * t.length):=by
       rw [List.length_cons,Nat.mul_succ,Nat.pow_add] at hE
       exact Nat.div_lt_of_lt_mul (by rw [Nat.mul_comm];exact hE)
     have:=ih t (E / 256) (by simpa using hl) hE' (fun j h1 h2=>by
       have:=h (j + 1) (by simpa using h1) (by simpa using h2)
       rw [List.getElem_cons_succ,List.getElem_cons_succ,Nat.mul_succ,show 8 * j + 8=8 + 8 * j from Nat.add_comm _ _,Nat.pow_add,←Nat.div_div_eq_div_mul] at this
       exact this)
     show b.toNat ^^^ 256 * val u=d.toNat ^^^ 256 * val t ^^^ E
     have e1:E=E % 256 ^^^ 256 * (E / 256):=by rw [xor_byte _ _ (Nat.mod_lt _ (by decide))];omega
     have e2:b.toNat=d.toNat ^^^ E % 256:=by simpa using h0
     have e3:256 * (val t ^^^ E / 256)=256 * val t ^^^ 256 * (E / 256):=by
       refine Nat.eq_of_testBit_eq fun i=>?_
       rw [show 256=2 ^ 8 by decide]
       simp only [Nat.testBit_xor,Nat.testBit_two_pow_mul]
       by_cases hi:8≤i <;> simp [hi]
     conv=>rhs;rw [e1]
     rw [this,e2,e3,x4]
theorem sealed_iff (s d:List UInt8) (hd:d.length=4):d=tail4 (sum s)↔run 4294967295 (s ++ d)=stn 32 4294967295:=by
 rw [run_append,run_val d,hd]
 have hr:run 4294967295 s < 4294967296:=run_lt s (by decide)
 have hv:val d < 4294967296:=by have:=val_lt d;rw [hd] at this;exact this
 have hs:sum s=run 4294967295 s ^^^ 4294967295:=by unfold sum more inv;rw [Nat.zero_xor]
 constructor
 · intro h
   rw [h,val_tail4 (sum_lt s),hs,xcan']
 · intro h
   have:=stn_inj 32 (xlt hr hv) (by decide) h
   refine val_inj d _ hd ?_
   rw [val_tail4 (sum_lt s),hs]
   have h5:=xcan' (run 4294967295 s) (val d)
   rw [this] at h5
   exact h5.symm
theorem openL_ok (l:List UInt8):(openL l).2=0↔4≤l.length∧run 4294967295 l=stn 32 4294967295:=by
 unfold openL
 by_cases h:l.length < 4
 · rw [if_pos h];constructor
   · intro h';simp at h'
   · intro h';omega
 · rw [if_neg h]
   have:=sealed_iff (l.take (l.length - 4)) (l.drop (l.length - 4)) (by simp;omega)
   rw [List.take_append_drop] at this
   by_cases h2:l.drop (l.length - 4)=tail4 (sum (l.take (l.length - 4)))
   · rw [if_pos h2];exact ⟨fun _=>⟨by omega,this.1 h2⟩,fun _=>rfl⟩
   · rw [if_neg h2];simp;intro _ h3;exact h2 (this.2 h3)
theorem openL_seal (s:List UInt8):openL (sealL s)=(s,0):=by
 unfold openL sealL
 rw [List.length_append,tail4_len,if_neg (by omega),show s.length + 4 - 4=s.length by omega,List.take_left',List.drop_left',if_pos rfl]
 · rfl
 · rfl
def burst (bits first n:Nat):Nat:=bits % 2 ^ n * 2 ^ first
theorem burst_seen (t u:List UInt8) (bits first:Nat) (hb:bits < 4294967296) (hf:first≤8 * t.length) (hl:u.length=t.length) (ht:(openL t).2=0)
   (h:∀ j (h:j < u.length) (h':j < t.length),u[j].toNat=t[j].toNat ^^^ burst bits first (8 * t.length - first) / 2 ^ (8 * j) % 256):(openL u).2=0↔u=t:=by
 obtain ⟨h4,hr⟩:=(openL_ok t).1 ht
 have hm:bits % 2 ^ (8 * t.length - first) < 2 ^ (8 * t.length - first):=Nat.mod_lt _ (Nat.two_pow_pos _)
 have hE:burst bits first (8 * t.length - first) < 2 ^ (8 * t.length):=by
   unfold burst
   calc _ < 2 ^ (8 * t.length - first) * 2 ^ first:=(Nat.mul_lt_mul_right (Nat.two_pow_pos _)).2 hm
     _=2 ^ (8 * t.length):=by rw [←Nat.pow_add];congr 1;omega
 have hv:=val_xor u t _ hl hE h
 constructor
 · intro hu
   obtain ⟨_,hru⟩:=(openL_ok u).1 hu
   rw [run_val,hl,hv,←Nat.xor_assoc,stn_xor,←run_val,hr] at hru
   have h0:stn (8 * t.length) (burst bits first (8 * t.length - first))=0:=by
     have:=congrArg (stn 32 4294967295 ^^^ ·) hru
     simpa only [xcan',Nat.xor_self] using this
   have h1:stn (8 * t.length - first) (bits % 2 ^ (8 * t.length - first))=0:=by
     rw [show 8 * t.length=(8 * t.length - first) + first by omega,stn_add] at h0
     unfold burst at h0
     rw [show 8 * t.length - first + first - first=8 * t.length - first by omega,stn_pow] at h0
     exact h0
   have h2:=stn_eq_zero _ (Nat.lt_of_le_of_lt (Nat.mod_le _ _) hb) h1
   refine val_inj u t hl ?_
   rw [hv]
   unfold burst
   rw [h2,Nat.zero_mul,Nat.xor_zero]
 · rintro rfl;exact ht
theorem mod_split (x k:Nat) (h:x / 2 ^ k % 2=1):x % 2 ^ (k + 1)=x % 2 ^ k ^^^ 2 ^ k:=by
 have hb:x.testBit k=true:=by rw [Nat.testBit_eq_decide_div_mod_eq,h];rfl
 refine Nat.eq_of_testBit_eq fun i=>?_
 rw [Nat.testBit_xor,Nat.testBit_mod_two_pow,Nat.testBit_mod_two_pow,Nat.testBit_two_pow]
 by_cases h1:i=k
 · subst h1;simp [hb]
 · by_cases h2:i < k
   · simp [h2,show i < k + 1 by omega,show k≠i by omega]
   · simp [h2,show ¬ i < k + 1 by omega,show k≠i by omega]
theorem mod_skip (x k:Nat) (h:¬ x / 2 ^ k % 2=1):x % 2 ^ (k + 1)=x % 2 ^ k:=by
 have h0:x / 2 ^ k % 2=0:=by omega
 rw [Nat.mod_pow_succ,h0,Nat.mul_zero,Nat.add_zero]
end Go.Proofs.YtjkbmfpomgcblaaGreatDoor
namespace Go.Proofs.YtjkbmfpomgcblaaGreatDoor
open Go.Maps
def keyL (s:ByteArray):Lit:=.string s.data.toList
theorem keyL_inj {a b:ByteArray} (h:keyL a=keyL b):a=b:=by
 unfold keyL at h
 cases a;cases b
 simpa using h
theorem keyL_key (s:ByteArray):WideAt.IsKeyLit (keyL s):=trivial
theorem keyN (k:Int):WideAt.IsKeyLit (.int .i64 k):=trivial
structure NumM (D:DataW Unit) (t:List ByteArray):Prop where
 isMap:IsMap D
 nodup:t.Nodup
 there:∀ s,s∈t→has D (keyL s)=true
 none:∀ s,s ∉ t→has D (keyL s)=false
 at':∀ s (j:Nat),t[j]? = some s→D.atKey (keyL s) (.lit (.int .i64 0))=.lit (.int .i64 j)
theorem numM_nil:NumM (.map []) []:=⟨isMap_empty,List.nodup_nil,fun _ h=>(by cases h),fun _ _=>rfl,fun _ _ h=>(by simp at h)⟩
theorem NumM.put {D:DataW Unit} {t:List ByteArray} (h:NumM D t) {s:ByteArray} (hs:s ∉ t):NumM (D.put (keyL s) (.lit (.int .i64 t.length))) (t ++ [s]):=by
 refine ⟨h.isMap.put _ _,?_,?_,?_,?_⟩
 · rw [List.nodup_append]
   exact ⟨h.nodup,by simp,fun a ha b hb=>by simp at hb;subst hb;rintro rfl;exact hs ha⟩
 · intro x hx
   rcases List.mem_append.1 hx with hx | hx
   · rw [has_put_other (fun e=>hs (by rw [←keyL_inj e];exact hx))];exact h.there x hx
   · simp at hx;subst hx;exact has_put_same h.isMap (keyL_key _) _
 · intro x hx
   have h1:x ∉ t:=fun h=>hx (List.mem_append_left _ h)
   have h2:x≠s:=fun e=>hx (by rw [e];simp)
   rw [has_put_other (fun e=>h2 (keyL_inj e))];exact h.none x h1
 · intro x j hj
   by_cases hlt:j < t.length
   · rw [List.getElem?_append_left hlt] at hj
     have hx:x∈t:=List.mem_of_getElem? hj
     rw [atKey_put_other (fun e=>hs (by rw [←keyL_inj e];exact hx))];exact h.at' x j hj
   · rw [List.getElem?_append_right (by omega)] at hj
     have hj0:j - t.length=0:=by have:=(List.getElem?_eq_some_iff.1 hj).1;simpa using this
     rw [hj0] at hj
     simp at hj
     subst hj
     rw [atKey_put_same h.isMap (keyL_key _)]
     rw [show j=t.length by omega]
structure SetM (D:DataW Unit) (t:List ByteArray):Prop where
 isMap:IsMap D
 there:∀ s,s∈t→D.atKey (keyL s) (.lit (.bool false))=.lit (.bool true)
 none:∀ s,s ∉ t→D.atKey (keyL s) (.lit (.bool false))=.lit (.bool false)
theorem setM_nil:SetM (.map []) []:=⟨isMap_empty,fun _ h=>(by cases h),fun _ _=>rfl⟩
theorem SetM.put {D:DataW Unit} {t:List ByteArray} (h:SetM D t) (s:ByteArray):SetM (D.put (keyL s) (.lit (.bool true))) (t ++ [s]):=by
 refine ⟨h.isMap.put _ _,?_,?_⟩
 · intro x hx
   by_cases e:x=s
   · subst e;rw [atKey_put_same h.isMap (keyL_key _)]
   · rw [atKey_put_other (fun h=>e (keyL_inj h))]
     rcases List.mem_append.1 hx with hx | hx
     · exact h.there x hx
     · simp at hx;exact absurd hx e
 · intro x hx
   have h1:x ∉ t:=fun h=>hx (List.mem_append_left _ h)
   have h2:x≠s:=fun e=>hx (by rw [e];simp)
   rw [atKey_put_other (fun e=>h2 (keyL_inj e))];exact h.none x h1
structure ToldM (D:DataW Unit) (m:Nat):Prop where
 tidy:Tidy D
 size:Maps.size D=m
 below:∀ j:Nat,has D (.int .i64 j)=decide (j < m)
theorem ToldM.old {D:DataW Unit} {m j:Nat} (h:ToldM D m) (hj:j < m):ToldM (D.put (.int .i64 j) (.lit (.bool true))) m:=by
 refine ⟨h.tidy.put (keyN _) _,?_,?_⟩
 · rw [size_put h.tidy,h.below j,if_pos (by simpa using hj),h.size]
 · intro i
   by_cases e:i=j
   · subst e;rw [has_put_same h.tidy.isMap (keyN _)];simp [hj]
   · rw [has_put_other (by simp;omega)];exact h.below i
theorem ToldM.new {D:DataW Unit} {m:Nat} (h:ToldM D m):ToldM (D.put (.int .i64 m) (.lit (.bool true))) (m + 1):=by
 refine ⟨h.tidy.put (keyN _) _,?_,?_⟩
 · rw [size_put h.tidy,h.below m,if_neg (by simp),h.size]
 · intro i
   by_cases e:i=m
   · subst e;rw [has_put_same h.tidy.isMap (keyN _)];simp
   · rw [has_put_other (by simp;omega),h.below i]
     by_cases h1:i < m
     · simp [h1];omega
     · simp [h1];omega
theorem plainElem_bool_inv {H:Type} {P:Program} {e:TypeId} (he:P.underlying e=some .bool) {v:Value} {z:DataW H×List MemPlace} (h:plainElem P e v=some z):∃ x,v=.bool x∧z=(.lit (.bool x),[]):=by
 unfold plainElem at h
 rw [he] at h
 cases v <;> simp at h
 exact ⟨_,rfl,h.symm⟩
theorem wpList_lookup_own_is {H:Type} {P:Program} (w:World) {ops:Array Oper} {rest:List Oper} {o:Oper} {a:Act} {Q:Exit→Act→World→Prop}
   (hg:o.guard=none) (m x:Operand) (t:TypeId) (hop:o.op=Op.lookup t m x false)
   (k e:TypeId) (K:Keyed P k) (ht:P.underlying t=some (.map k e)) (R:Value→Option (DataW H×List MemPlace)) {z:Value} (hz:(zeroValue e).run P w=.ok z w) (zd:DataW H) (zp:List MemPlace) (hzd:R z=some (zd,zp)) (b n:Nat) (D:DataW H)
   (hm:a.eval m=.map (some b)) (hown:w.ownsMap P k R b n D) (key:Value) (kl:Lit) (hx:a.eval x=key) (hkey:keyOf P k key=some kl) (val:Value) (hval:∀ v ps,R v=some (D.atKey kl zd,ps)→v=val)
   (hK:wpList P ops Q rest (a.put o.dst val) w) :
   wpList P ops Q (o :: rest) a w:=by
 refine wpList_plain hg fun K' hK'=>?_
 obtain ⟨v,ps,hrun,hv⟩:=hown.lookup K ht hz hzd hkey
 unfold Oper.wp
 simp [execOp,hop,hm,hx,hrun,Result.andThen]
 rw [hval v ps hv]
 exact hK' _ _ hK
end Go.Proofs.YtjkbmfpomgcblaaGreatDoor
namespace Go.Proofs.YtjkbmfpomgcblaaGreatDoor
open Go.RowKit
def pickN (a n:Int):Int:=(a % 18446744073709551616) % n
theorem pickN_pos {a n:Int} (h:0 < n):0≤pickN a n∧pickN a n < n:=⟨Int.emod_nonneg _ (by omega),Int.emod_lt_of_pos _ h⟩
set_option maxRecDepth 100000 in
theorem pick_any (a n:Int) (w:World) (h0:0 < n) (h1:n≤9223372036854775807) :
   Calls Tryz.prog 22 #[.int .i64 a,.int .i64 n] w fun e w'=>e=.returned (.int .i64 (pickN a n))∧w=w':=by
 obtain ⟨q,hq'⟩:∃ q,IntKind.u64.wrap a=q:=⟨_,rfl⟩
 have hq:0≤q∧q≤18446744073709551615:=by rw [←hq',IntKind.wrap_u64];omega
 have hr:=Int.emod_nonneg q (show n≠0 by omega)
 have hr2:=Int.emod_lt_of_pos q h0
 have hw:Hid (wrap64 (q % n)=pickN a n):=by
   rw [IntWalk.wrap64_in _ ⟨by omega,by omega⟩,←hq',IntKind.wrap_u64];rfl
 clear hr hr2
 go_enter Tryz.func22,Tryz.ntmps22
 go_wp2
 go_ret
 refine ⟨?_,rfl⟩
 rw [←hw.out];rfl
end Go.Proofs.YtjkbmfpomgcblaaGreatDoor
namespace Go.Proofs.YtjkbmfpomgcblaaGreatDoor
open Go.RowKit
def IsTexts (w:World) (v:Value) (l:List ByteArray):Prop :=
 ∃ a cap,v=.slice a l.length cap∧l.length≤cap∧∀ k s,l[k]? = some s→∃ b off,a=some ⟨b,off,none⟩∧b < w.heap.size∧w.cell? ⟨b,off + k,none⟩=some (.string s)
def IsNums (w:World) (v:Value) (l:List Int):Prop :=
 ∃ a cap,v=.slice a l.length cap∧l.length≤cap∧∀ k n,l[k]? = some n→∃ b off,a=some ⟨b,off,none⟩∧b < w.heap.size∧w.cell? ⟨b,off + k,none⟩=some (.int .i64 n)
theorem IsTexts.below {w w':World} {v:Value} {l:List ByteArray} (h:IsTexts w v l) (hb:Below w.heap.size w w'):IsTexts w' v l:=by
 obtain ⟨a,cap,h1,h2,h3⟩:=h
 exact ⟨a,cap,h1,h2,fun k s hk=>by obtain ⟨b,off,e,hlt,hc⟩:=h3 k s hk;exact ⟨b,off,e,Nat.lt_of_lt_of_le hlt hb.size,(hb.cell hlt).trans hc⟩⟩
theorem IsNums.below {w w':World} {v:Value} {l:List Int} (h:IsNums w v l) (hb:Below w.heap.size w w'):IsNums w' v l:=by
 obtain ⟨a,cap,h1,h2,h3⟩:=h
 exact ⟨a,cap,h1,h2,fun k s hk=>by obtain ⟨b,off,e,hlt,hc⟩:=h3 k s hk;exact ⟨b,off,e,Nat.lt_of_lt_of_le hlt hb.size,(hb.cell hlt).trans hc⟩⟩
theorem IsTexts.alloc {w:World} {v:Value} {l:List ByteArray} (h:IsTexts w v l) (o:Obj):IsTexts (w.alloc o) v l:=h.below ((Below.refl _ _).alloc (Nat.le_refl _) _)
theorem IsNums.alloc {w:World} {v:Value} {l:List Int} (h:IsNums w v l) (o:Obj):IsNums (w.alloc o) v l:=h.below ((Below.refl _ _).alloc (Nat.le_refl _) _)
theorem IsTexts.drewN {w:World} {v:Value} {l:List ByteArray} (h:IsTexts w v l) (n:Nat):IsTexts (w.drewN n) v l:=h.below ⟨rfl,rfl,rfl,Nat.le_refl _,fun _ _=>rfl⟩
theorem IsNums.drewN {w:World} {v:Value} {l:List Int} (h:IsNums w v l) (n:Nat):IsNums (w.drewN n) v l:=h.below ⟨rfl,rfl,rfl,Nat.le_refl _,fun _ _=>rfl⟩
theorem IsTexts.drew {w:World} {v:Value} {l:List ByteArray} (h:IsTexts w v l):IsTexts w.drew v l:=h.below ((Below.refl _ _).drew)
theorem IsNums.drew {w:World} {v:Value} {l:List Int} (h:IsNums w v l):IsNums w.drew v l:=h.below ((Below.refl _ _).drew)
theorem isTexts_nil (w:World):IsTexts w (.slice none 0 0) []:=⟨none,0,rfl,Nat.le_refl _,fun k s h=>by simp at h⟩
theorem isNums_nil (w:World):IsNums w (.slice none 0 0) []:=⟨none,0,rfl,Nat.le_refl _,fun k s h=>by simp at h⟩
theorem IsTexts.take {w:World} {a:Option Addr} {cap:Nat} {l:List ByteArray} (h:IsTexts w (.slice a l.length cap) l) (i c:Nat) (hi:i≤l.length) (hc:i≤c):IsTexts w (.slice a i c) (l.take i):=by
 obtain ⟨a',cap',h1,h2,h3⟩:=h
 obtain ⟨rfl,_,rfl⟩:=Value.slice.inj h1
 refine ⟨a,c,by rw [List.length_take,Nat.min_eq_left hi],by rw [List.length_take];omega,fun k s hk=>?_⟩
 have hki:k < i:=by have:=(List.getElem?_eq_some_iff.1 hk).1;rw [List.length_take] at this;omega
 rw [List.getElem?_take_of_lt hki] at hk
 exact h3 k s hk
theorem ownsS.isTexts {w:World} {base:Nat} {v:Value} {l:List ByteArray} (h:ownsS w base v l):IsTexts w v l:=by
 rcases h.forms with ⟨rfl,rfl⟩ | ⟨g,cap,rfl,hb,hg,hc⟩
 · exact isTexts_nil w
 · have hcap : l.length ≤ cap := by
     rcases h.2 with ⟨e,_⟩ | ⟨_,_,_,e,_,_,hcl,_⟩
     · simp at e
     · obtain ⟨_,_,rfl⟩:=Value.slice.inj e;omega
   refine ⟨_,cap,rfl,hcap,fun k s hk=>⟨g,0,rfl,hg,?_⟩⟩
   obtain ⟨hkl,e⟩:=List.getElem?_eq_some_iff.1 hk
   have:=hc k hkl
   rw [Nat.zero_add,this]
   simp [List.getD_eq_getElem?_getD,hk]
theorem ownsN.isNums {w:World} {base:Nat} {v:Value} {l:List Nat} (h:ownsN w base v l):IsNums w v (l.map Int.ofNat):=by
 rcases h.forms with ⟨rfl,rfl⟩ | ⟨g,cap,rfl,hb,hg,hc⟩
 · exact isNums_nil w
 · have hcap : l.length ≤ cap := by
     rcases h.2 with ⟨e,_⟩ | ⟨_,_,_,e,_,_,hcl,_⟩
     · simp at e
     · obtain ⟨_,_,rfl⟩:=Value.slice.inj e;omega
   refine ⟨some ⟨g,0,none⟩,cap,by rw [List.length_map],by rw [List.length_map];exact hcap,fun k s hk=>⟨g,0,rfl,hg,?_⟩⟩
   rw [List.getElem?_map] at hk
   obtain ⟨n,hn,rfl⟩:=Option.map_eq_some_iff.1 hk
   have hkl:=(List.getElem?_eq_some_iff.1 hn).1
   have:=hc k hkl
   rw [Nat.zero_add,this]
   simp [List.getD_eq_getElem?_getD,hn]
theorem rows_apart {w:World} {base base':Nat} {e1 e2:TypeId} {k1 k2 n1 n2:Nat} {v1 v2:Value} {x1 x2:List Value} (h1:w.ownsRow base e1 k1 v1 n1 x1) (h2:w.ownsRow base' e2 k2 v2 n2 x2) (hne:e1≠e2) :
   v1.ownBlock=none∨v1.ownBlock≠v2.ownBlock:=by
 rcases h1.2 with ⟨rfl,_⟩ | ⟨g,cap,cur,rfl,_,hh,_⟩
 · exact .inl rfl
 · refine .inr ?_
   rcases h2.2 with ⟨rfl,_⟩ | ⟨g',cap',cur',rfl,_,hh',_⟩
   · simp [Value.ownBlock]
   · intro e
     have:g=g':=by simpa [Value.ownBlock] using e
     subst this
     rw [hh] at hh'
     injection hh' with hh'
     injection hh' with _ ht
     exact hne ht
theorem ownsS.off {w:World} {base b:Nat} {v:Value} {l:List ByteArray} (h:ownsS w base v l) (hb:b < base):v.ownBlock≠some b:=fun e=>by have:=(h.lt b e).1;omega
theorem ownsN.off {w:World} {base b:Nat} {v:Value} {l:List Nat} (h:ownsN w base v l) (hb:b < base):v.ownBlock≠some b:=fun e=>by have:=(h.lt b e).1;omega
theorem ownsS.mono {w:World} {base b:Nat} {v:Value} {l:List ByteArray} (h:ownsS w base v l) (hb:b≤base):ownsS w b v l:=by
 refine ⟨h.1,?_⟩
 rcases h.2 with h1 | ⟨g,cap,cur,e,h2,h3⟩
 · exact .inl h1
 · exact .inr ⟨g,cap,cur,e,Nat.le_trans hb h2,h3⟩
theorem ownsN.mono {w:World} {base b:Nat} {v:Value} {l:List Nat} (h:ownsN w base v l) (hb:b≤base):ownsN w b v l:=by
 refine ⟨h.1,?_⟩
 rcases h.2 with h1 | ⟨g,cap,cur,e,h2,h3⟩
 · exact .inl h1
 · exact .inr ⟨g,cap,cur,e,Nat.le_trans hb h2,h3⟩
end Go.Proofs.YtjkbmfpomgcblaaGreatDoor
namespace Go.Proofs.YtjkbmfpomgcblaaGreatDoor
open Go.RowKit Go.Maps
theorem keyedS:Keyed Tryz.prog 9:=string_keyed Tryz.underlying9
theorem zeroI (w:World):(zeroValue 3).run Tryz.prog w=.ok (.int .i64 0) w:=by kernel_rfl
theorem keyS {s:ByteArray} (h:s.size≤maxLen):keyOf Tryz.prog 9 (.string s)=some (keyL s):=Go.WideMaps.keyOf_string_mk Tryz.underlying9 h
def ownsNum (w:World) (b n:Nat) (t:List ByteArray):Prop:=∃ D,NumM D t∧w.ownsMap Tryz.prog 9 (plainElem Tryz.prog 3) b n D
theorem ownsNum_made (w:World):ownsNum (w.alloc (.map #[] 0)) w.heap.size 0 []:=⟨_,numM_nil,World.ownsMap_made _ _ _ _⟩
theorem ownsNum.kept {w w':World} {b n:Nat} {t:List ByteArray} {row:Option Nat} (h:ownsNum w b n t) (hg:w.grownBy w' row) (hne:some b≠row):ownsNum w' b n t:=by
 obtain ⟨D,h1,h2⟩:=h;exact ⟨D,h1,h2.kept hg hne⟩
theorem ownsNum.alloc {w:World} {b n:Nat} {t:List ByteArray} (h:ownsNum w b n t) (o:Obj):ownsNum (w.alloc o) b n t:=by
 obtain ⟨D,h1,h2⟩:=h;exact ⟨D,h1,h2.alloc o⟩
theorem ownsNum.drew {w:World} {b n:Nat} {t:List ByteArray} (h:ownsNum w b n t):ownsNum w.drew b n t:=by
 obtain ⟨D,h1,h2⟩:=h;exact ⟨D,h1,h2.drew⟩
theorem ownsNum.mono {w:World} {b n m:Nat} {t:List ByteArray} (h:ownsNum w b n t) (hm:n≤m):ownsNum w b m t:=by
 obtain ⟨D,h1,h2⟩:=h;exact ⟨D,h1,h2.mono hm⟩
theorem ownsNum.lt {w:World} {b n:Nat} {t:List ByteArray} (h:ownsNum w b n t):b < w.heap.size:=by
 obtain ⟨D,h1,h2⟩:=h;exact h2.lt
theorem ownsNum.below {w w':World} {b n:Nat} {t:List ByteArray} (h:ownsNum w b n t) (hb:Below w.heap.size w w'):ownsNum w' b n t :=
 h.kept (row:=none) ⟨hb.os,hb.tape,hb.output,hb.size,fun k hk _=>hb.block k hk⟩ (by simp)
theorem ownsNum.nodup {w:World} {b n:Nat} {t:List ByteArray} (h:ownsNum w b n t):t.Nodup:=by
 obtain ⟨D,h1,h2⟩:=h;exact h1.nodup
section
variable {w:World} {ops:Array Oper} {rest:List Oper} {o:Oper} {a:Act} {Q:Exit→Act→World→Prop}
theorem wpList_num_there (hg:o.guard=none) (m x:Operand) (hop:o.op=Op.lookup 206 m x true) (b n:Nat) (t:List ByteArray)
   (hm:a.eval m=.map (some b)) (hown:ownsNum w b n t) (s:ByteArray) (hx:a.eval x=.string s) (hs:s.size≤maxLen) (j:Nat) (hj:t[j]? = some s)
   (hK:wpList Tryz.prog ops Q rest (a.put o.dst (.tuple #[.int .i64 j,.bool true])) w):wpList Tryz.prog ops Q (o :: rest) a w:=by
 obtain ⟨D,h1,h2⟩:=hown
 refine wpList_lookup_own_ok_int w hg m x _ hop 9 3 .i64 keyedS Tryz.underlying206 Tryz.underlying3 (zeroI w) b n D hm h2 _ _ hx (keyS hs) ?_
 intro c hc _
 rw [h1.at' s j hj] at hc
 obtain rfl:(j:Int)=c:=by simpa using hc
 rw [h1.there s (List.mem_of_getElem? hj)]
 exact hK
theorem wpList_num_none (hg:o.guard=none) (m x:Operand) (hop:o.op=Op.lookup 206 m x true) (b n:Nat) (t:List ByteArray)
   (hm:a.eval m=.map (some b)) (hown:ownsNum w b n t) (s:ByteArray) (hx:a.eval x=.string s) (hs:s.size≤maxLen) (hj:s ∉ t)
   (hK:∀ c,wpList Tryz.prog ops Q rest (a.put o.dst (.tuple #[.int .i64 c,.bool false])) w):wpList Tryz.prog ops Q (o :: rest) a w:=by
 obtain ⟨D,h1,h2⟩:=hown
 refine wpList_lookup_own_ok_int w hg m x _ hop 9 3 .i64 keyedS Tryz.underlying206 Tryz.underlying3 (zeroI w) b n D hm h2 _ _ hx (keyS hs) ?_
 intro c hc _
 rw [h1.none s hj]
 exact hK c
theorem wpList_num_put (hg:o.guard=none) (m x v:Operand) (hop:o.op=Op.mapUpdate 206 m x v) (b n:Nat) (t:List ByteArray)
   (hm:a.eval m=.map (some b)) (hown:ownsNum w b n t) (hn:n < maxLen) (s:ByteArray) (hx:a.eval x=.string s) (hv:a.eval v=.int .i64 (t.length:Nat)) (hs:s.size≤maxLen) (hj:s ∉ t) (ht:t.length≤maxLen)
   (hK:∀ w',ownsNum w' b (n + 1) (t ++ [s])→w.grownBy w' (some b)→wpList Tryz.prog ops Q rest (a.put o.dst undef) w'):wpList Tryz.prog ops Q (o :: rest) a w:=by
 obtain ⟨D,h1,h2⟩:=hown
 refine wpList_mapUpdate_own w hg m x v _ hop 9 3 keyedS Tryz.underlying206 _ b n D hm h2 hn _ _ _ hx hv (keyS hs) (.lit (.int .i64 t.length)) [] (plainElem_int Tryz.underlying3 (WalkArith.wf_i64 (by unfold maxLen at ht;omega))) ?_
 intro w' h3 h4
 exact hK w' ⟨_,h1.put hj,h3⟩ h4
end
end Go.Proofs.YtjkbmfpomgcblaaGreatDoor
namespace Go.Proofs.YtjkbmfpomgcblaaGreatDoor
def wrongN (t:Tok) (a:Nat):Nat :=
 if t.own.size=0 then
   if t.size=0∧t.back=0 then 1
   else if t.size < 4∨67 < t.size∨t.back < 1∨1024 < t.back then 2
   else if (a:Int) < t.back then 7
   else if 20000 < (a:Int) + t.size then 4 else 0
 else if t.size≠0∨t.back≠0 then 1
 else if 20000 < a + t.own.size then 4 else 0
def lenT (t:Tok):Nat:=t.own.size + t.size.toNat
def rightF:List Tok→Nat→Nat→Nat×Int
 | [],_,_=>(0,-1)
 | t :: r,i,a=>if wrongN t a=0 then rightF r (i + 1) (a + lenT t) else (wrongN t a,(i:Int))
def repL (b:List UInt8) (back:Nat):Nat→List UInt8
 | 0=>b
 | n + 1=>repL (b ++ [b.getD (b.length - back) 0]) back n
def stepT (b:List UInt8) (t:Tok):List UInt8:=repL (b ++ t.own.data.toList) t.back.toNat t.size.toNat
def textL (b:List UInt8) (l:List Tok):List UInt8:=l.foldl stepT b
theorem repL_len (b:List UInt8) (k n:Nat):(repL b k n).length=b.length + n:=by
 induction n generalizing b with
 | zero=>rfl
 | succ n ih=>rw [repL,ih];simp;omega
theorem stepT_len (b:List UInt8) (t:Tok):(stepT b t).length=b.length + lenT t:=by
 unfold stepT lenT
 rw [repL_len,List.length_append,←size_data];omega
theorem wrongN_ok {t:Tok} {a:Nat} (h:wrongN t a=0) :
   (t.own.size≠0∧t.size=0∧t.back=0∧a + t.own.size≤20000) ∨
   (t.own.size=0∧4≤t.size∧t.size≤67∧1≤t.back∧t.back≤1024∧t.back≤(a:Int)∧(a:Int) + t.size≤20000):=by
 unfold wrongN at h
 by_cases h0:t.own.size=0
 · rw [if_pos h0] at h
   by_cases h1:t.size=0∧t.back=0
   · rw [if_pos h1] at h;omega
   · rw [if_neg h1] at h
     by_cases h2:t.size < 4∨67 < t.size∨t.back < 1∨1024 < t.back
     · rw [if_pos h2] at h;omega
     · rw [if_neg h2] at h
       by_cases h3:(a:Int) < t.back
       · rw [if_pos h3] at h;omega
       · rw [if_neg h3] at h
         by_cases h4:20000 < (a:Int) + t.size
         · rw [if_pos h4] at h;omega
         · exact .inr ⟨h0,by omega,by omega,by omega,by omega,by omega,by omega⟩
 · rw [if_neg h0] at h
   by_cases h1:t.size≠0∨t.back≠0
   · rw [if_pos h1] at h;omega
   · rw [if_neg h1] at h
     by_cases h4:20000 < a + t.own.size
     · rw [if_pos h4] at h;omega
     · exact .inl ⟨h0,by omega,by omega,by omega⟩
theorem wrongN_le {t:Tok} {a:Nat} (h:wrongN t a=0):a + lenT t≤20000:=by
 unfold lenT
 rcases wrongN_ok h with ⟨_,h1,_,h2⟩ | ⟨h0,h1,_,_,_,_,h2⟩ <;> omega
theorem rightF_ok {t:Tok} {r:List Tok} {i a:Nat} (h:wrongN t a=0):rightF (t :: r) i a=rightF r (i + 1) (a + lenT t):=by rw [rightF,if_pos h]
theorem rightF_bad {t:Tok} {r:List Tok} {i a:Nat} (h:wrongN t a≠0):rightF (t :: r) i a=(wrongN t a,(i:Int)):=by rw [rightF,if_neg h]
theorem rightF_head {t:Tok} {r:List Tok} {i a:Nat} (h:(rightF (t :: r) i a).1=0):wrongN t a=0∧(rightF r (i + 1) (a + lenT t)).1=0:=by
 by_cases hw:wrongN t a=0
 · rw [rightF_ok hw] at h;exact ⟨hw,h⟩
 · rw [rightF_bad hw] at h;exact absurd h hw
theorem rightF_any {l:List Tok} {i a:Nat} (h:(rightF l i a).1=0):rightF l i a=(0,-1):=by
 induction l generalizing i a with
 | nil=>rfl
 | cons t r ih =>
   obtain ⟨h1,h2⟩:=rightF_head h
   rw [rightF_ok h1];exact ih h2
theorem rightF_take {l:List Tok} {i a:Nat} (h:(rightF l i a).1=0) (n:Nat):(rightF (l.take n) i a).1=0:=by
 induction l generalizing i a n with
 | nil=>simp [rightF]
 | cons t r ih =>
   cases n with
   | zero=>rfl
   | succ n =>
     obtain ⟨h1,h2⟩:=rightF_head h
     rw [List.take_succ_cons,rightF_ok h1];exact ih h2 n
theorem textL_len {l:List Tok} {i a:Nat} {b:List UInt8} (h:(rightF l i a).1=0) (hb:b.length=a) (ha:a≤20000):(textL b l).length≤20000:=by
 induction l generalizing i a b with
 | nil=>show b.length≤_;omega
 | cons t r ih =>
   obtain ⟨h1,h2⟩:=rightF_head h
   exact ih (b:=stepT b t) h2 (by rw [stepT_len,hb]) (wrongN_le h1)
end Go.Proofs.YtjkbmfpomgcblaaGreatDoor
