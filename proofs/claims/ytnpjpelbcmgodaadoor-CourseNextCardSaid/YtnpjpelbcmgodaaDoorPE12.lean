namespace Go.Proofs.YtnpjpelbcmgodaaDoor
set_option maxRecDepth 10000
def le:Nat→Nat→List Nat
 | _,0=>[]
 | x,k+1=>x % 256::le (x / 256) k
abbrev St:=Int × List Nat
def bad (e:Int) (S:St):St:=if S.1=0 then (e,S.2) else S
end Go.Proofs.YtnpjpelbcmgodaaDoor
