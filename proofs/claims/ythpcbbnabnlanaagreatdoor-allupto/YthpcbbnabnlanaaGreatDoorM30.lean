import Derived.Test.YthpcbbnabnlanaaGreatDoorM01
import Derived.Lib.ItoaNum
